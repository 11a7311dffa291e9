/-
  Two, digit and Parse on the abstract machine (own work).
-/
import Derived.Test.YtmopnogcdjehmaaDoorAmO
set_option linter.unusedSimpArgs false
set_option linter.unusedVariables false
namespace Go.Am.Seat
open Go.Proofs Go.Am
set_option maxRecDepth 100000

noncomputable def rtwo_0 : Array Oper := match Tryd.f43.body with
  | some (.seq (.region _ o _) _) => o
  | _ => #[]
noncomputable def rtwo_1 : Array Oper := match Tryd.f43.body with
  | some (.seq _ (.seq (.region _ o _) _)) => o
  | _ => #[]
theorem bodytwo : Tryd.f43.body = some (.seq (.region 0 rtwo_0 false) (.seq (.region 1 rtwo_1 false) .ret)) := rfl
-- ntmps 10
noncomputable def rdig_0 : Array Oper := match Tryd.f66.body with
  | some (.seq (.region _ o _) _) => o
  | _ => #[]
noncomputable def rdig_1 : Array Oper := match Tryd.f66.body with
  | some (.seq _ (.seq (.seq (.region _ o _) _) _)) => o
  | _ => #[]
noncomputable def rdig_2 : Array Oper := match Tryd.f66.body with
  | some (.seq _ (.seq (.seq _ (.cond _ (.seq (.region _ o _) _) _)) _)) => o
  | _ => #[]
noncomputable def rdig_3 : Array Oper := match Tryd.f66.body with
  | some (.seq _ (.seq _ (.seq (.seq (.region _ o _) _) _))) => o
  | _ => #[]
noncomputable def rdig_4 : Array Oper := match Tryd.f66.body with
  | some (.seq _ (.seq _ (.seq (.seq _ (.cond _ (.seq (.region _ o _) _) _)) _))) => o
  | _ => #[]
noncomputable def rdig_5 : Array Oper := match Tryd.f66.body with
  | some (.seq _ (.seq _ (.seq _ (.seq (.region _ o _) _)))) => o
  | _ => #[]
theorem bodydig : Tryd.f66.body = some (.seq (.region 0 rdig_0 false) (.seq (.seq (.region 1 rdig_1 false) (.cond (.tmp 9) (.seq (.region 2 rdig_2 false) .ret) .skip)) (.seq (.seq (.region 3 rdig_3 false) (.cond (.tmp 17) (.seq (.region 4 rdig_4 false) .ret) .skip)) (.seq (.region 5 rdig_5 false) .ret)))) := rfl
-- ntmps 21
noncomputable def rpar_0 : Array Oper := match Tryd.f39.body with
  | some (.seq (.region _ o _) _) => o
  | _ => #[]
noncomputable def rpar_1 : Array Oper := match Tryd.f39.body with
  | some (.seq _ (.seq (.seq (.region _ o _) _) _)) => o
  | _ => #[]
noncomputable def rpar_2 : Array Oper := match Tryd.f39.body with
  | some (.seq _ (.seq (.seq _ (.cond _ (.seq (.region _ o _) _) _)) _)) => o
  | _ => #[]
noncomputable def rpar_3 : Array Oper := match Tryd.f39.body with
  | some (.seq _ (.seq _ (.seq (.region _ o _) _))) => o
  | _ => #[]
noncomputable def rpar_4 : Array Oper := match Tryd.f39.body with
  | some (.seq _ (.seq _ (.seq _ (.seq (.seq (.region _ o _) _) _)))) => o
  | _ => #[]
noncomputable def lppar_0 : Code := match Tryd.f39.body with
  | some (.seq _ (.seq _ (.seq _ (.seq (.seq _ (.block _ (.loop c))) _)))) => c
  | _ => .skip
noncomputable def rpar_5 : Array Oper := match Tryd.f39.body with
  | some (.seq _ (.seq _ (.seq _ (.seq (.seq _ (.block _ (.loop (.seq (.seq (.region _ o _) _) _)))) _)))) => o
  | _ => #[]
noncomputable def rpar_7 : Array Oper := match Tryd.f39.body with
  | some (.seq _ (.seq _ (.seq _ (.seq (.seq _ (.block _ (.loop (.seq _ (.seq (.block _ (.seq (.region _ o _) _)) _))))) _)))) => o
  | _ => #[]
noncomputable def rpar_8 : Array Oper := match Tryd.f39.body with
  | some (.seq _ (.seq _ (.seq _ (.seq (.seq _ (.block _ (.loop (.seq _ (.seq (.block _ (.seq _ (.seq (.region _ o _) _))) _))))) _)))) => o
  | _ => #[]
noncomputable def rpar_9 : Array Oper := match Tryd.f39.body with
  | some (.seq _ (.seq _ (.seq _ (.seq (.seq _ (.block _ (.loop (.seq _ (.seq (.block _ (.seq _ (.seq _ (.seq (.seq (.region _ o _) _) _)))) _))))) _)))) => o
  | _ => #[]
noncomputable def rpar_10 : Array Oper := match Tryd.f39.body with
  | some (.seq _ (.seq _ (.seq _ (.seq (.seq _ (.block _ (.loop (.seq _ (.seq (.block _ (.seq _ (.seq _ (.seq (.seq _ (.cond _ (.seq (.region _ o _) _) _)) _)))) _))))) _)))) => o
  | _ => #[]
noncomputable def rpar_11 : Array Oper := match Tryd.f39.body with
  | some (.seq _ (.seq _ (.seq _ (.seq (.seq _ (.block _ (.loop (.seq _ (.seq (.block _ (.seq _ (.seq _ (.seq _ (.region _ o _))))) _))))) _)))) => o
  | _ => #[]
noncomputable def rpar_6 : Array Oper := match Tryd.f39.body with
  | some (.seq _ (.seq _ (.seq _ (.seq (.seq _ (.block _ (.loop (.seq _ (.seq _ (.region _ o _)))))) _)))) => o
  | _ => #[]
theorem lppar_0_eq : lppar_0 = (.seq (.seq (.region 5 rpar_5 false) (.cond (.tmp 21) .skip (.exit 0))) (.seq (.block 1 (.seq (.region 7 rpar_7 false) (.seq (.region 8 rpar_8 false) (.seq (.seq (.region 9 rpar_9 false) (.cond (.tmp 44) (.seq (.region 10 rpar_10 false) .ret) .skip)) (.region 11 rpar_11 false))))) (.region 6 rpar_6 false))) := rfl
noncomputable def rpar_12 : Array Oper := match Tryd.f39.body with
  | some (.seq _ (.seq _ (.seq _ (.seq _ (.seq (.region _ o _) _))))) => o
  | _ => #[]
theorem bodypar : Tryd.f39.body = some (.seq (.region 0 rpar_0 false) (.seq (.seq (.region 1 rpar_1 false) (.cond (.tmp 13) (.seq (.region 2 rpar_2 false) .ret) .skip)) (.seq (.region 3 rpar_3 false) (.seq (.seq (.region 4 rpar_4 false) (.block 0 (.loop lppar_0))) (.seq (.region 12 rpar_12 false) .ret))))) := rfl
-- ntmps 54

theorem geq8 (a b : Int) : abin .geq .u8 a .u8 b = some (.bool (decide (a ≥ b))) := by kernel_rfl
theorem leq8 (a b : Int) : abin .leq .u8 a .u8 b = some (.bool (decide (a ≤ b))) := by kernel_rfl
theorem sub8 (a b : Int) : abin .sub .u8 a .u8 b = some (.int .u8 (wrapF .u8 (a - b))) := by kernel_rfl
theorem add8 (a b : Int) : abin .add .u8 a .u8 b = some (.int .u8 (wrapF .u8 (a + b))) := by kernel_rfl
theorem quo256 (k : Int) : abin .quo .i64 k .i64 256 = some (.int .i64 (wrapF .i64 (k.tdiv 256))) := by kernel_rfl
theorem conv3_5 (k : Int) : aconv E.P 3 5 (.int .i64 k) = some (.int .u8 (k % 256)) := by kernel_rfl
theorem build35_2 (a b : Int) (m : Mem) : abuildSlice E.P 35 2 [(0, .int .u8 a), (1, .int .u8 b)] m = some (.slice (some ⟨m.length, 0, none⟩) 2 2, m ++ [.row false 5 [.int .u8 a, .int .u8 b]]) := by kernel_rfl
theorem aconv35 (a : Addr) (n c : Nat) : aconv E.P 35 9 (.slice (some a) n c) = none := by kernel_rfl
theorem conv35_str {m : Mem} {b n c : Nat} {ro : Bool} {e : TypeId} {l : List Int} {cs : List Value} (hm : m[b]? = some (.row ro e cs)) (hcs : cs.take n = l.map (.int .u8)) (hn : n ≤ cs.length) :
    aconvB E.P 35 9 (.slice (some ⟨b, 0, none⟩) n c) m = some (.string (bytesOfL (l.map fun n => UInt8.ofNat n.toNat)), m) := by
  unfold aconvB
  simp only [show E.P.underlying 35 = some (.slice 5) from Tryd.underlying35, und9, und5]
  have hs : asrc m 1 (.slice (some ⟨b, 0, none⟩) n c) = some (n, l.map (.int .u8)) := by
    unfold asrc
    simp only [lookRow hm]
    rw [if_pos (by omega), List.drop_zero, Nat.mul_one, hcs]
  rw [hs]
  simp only [bytesOf_map]
  rfl

section
variable {self : Self} {nf : Nat} {m : Mem} {F : Nat → Value} {s out : ByteArray} {i : Nat}

theorem two_body (k : Nat) (hk : k < 100000) : ∃ m', abody E self nf 43 [.int .i64 (k : Nat)] m = some (.string (bytesOfL [UInt8.ofNat (k / 256), UInt8.ofNat k]), m') := by
  rw [abody_eqF (by kernel_rfl) Tryd.func43 bodytwo (by kernel_rfl) (Nat.le_of_ble_eq_true rfl)]
  rw [show Tryd.f43.ntmps = 10 from rfl]
  have hq : wrapF .i64 (((k : Nat) : Int).tdiv 256) = ((k / 256 : Nat) : Int) := by
    rw [Int.tdiv_eq_ediv_of_nonneg (by omega), wrap_i64 (by omega) (by omega)]
    omega
  have hc := conv35_str (m := m ++ [.row false 5 [.int .u8 (((k / 256 : Nat) : Int) % 256), .int .u8 (((k : Nat) : Int) % 256)]]) (b := m.length) (n := 2) (c := 2) (ro := false) (e := 5) (cs := [.int .u8 (((k / 256 : Nat) : Int) % 256), .int .u8 (((k : Nat) : Int) % 256)]) (l := [((k / 256 : Nat) : Int) % 256, ((k : Nat) : Int) % 256]) (by simp) rfl (by simp)
  have he : (([((k / 256 : Nat) : Int) % 256, ((k : Nat) : Int) % 256] : List Int).map fun n => UInt8.ofNat n.toNat) = [UInt8.ofNat (k / 256), UInt8.ofNat k] := by
    have e1 : (((k / 256 : Nat) : Int) % 256).toNat = (k / 256) % 256 := by omega
    have e2 : (((k : Nat) : Int) % 256).toNat = k % 256 := by omega
    simp only [List.map_cons, List.map_nil, e1, e2]
    congr 1
    · apply UInt8.toNat_inj.1; simp
    · congr 1
      apply UInt8.toNat_inj.1; simp
  rw [he] at hc
  simp only [rtwo_0, rtwo_1, Tryd.f43, List.append_eq, List.cons_append, List.nil_append, apure_call1, apure_call2, apure_call3, bft, btf, acodeN, List.getElem?_toArray, List.getElem?_cons_zero, List.getElem?_cons_succ, aopsN, adrawT, agd, cls, astep, aop, afloat, ev, nth_lst, get_lst, aput, setAt_lst, upd_at, init_zero, init_succ, init_nil, Nat.reduceLT, Nat.reduceEqDiff, reduceIte, abuiltin, alen, Option.map_some, Option.map_none, orElse_some, apure_add, apure_eql, apure_neq, List.map_cons, List.map_nil, List.all_cons, List.all_nil, lit2, lit1, lit0, List.isEmpty_nil, Bool.and_self, Bool.and_true, Bool.true_and, Bool.false_and, Bool.and_false, Bool.not_true, Bool.not_false, Bool.or_true, Bool.true_or, Bool.false_or, Bool.or_false, Bool.false_eq_true, if_true, if_false, List.length_map, beq_self_eq_true, und3, und4, und5, und9, quo256, hq, conv3_5, build35_2, aconv35, apure_convert, isAddr, hc, finish, ares, aresL, ares1]
  exact ⟨_, rfl⟩

/-- What a digit is. -/
def digitV (c : Nat) : Nat := if 48 ≤ c ∧ c ≤ 57 then c - 48 else if 97 ≤ c ∧ c ≤ 102 then c - 87 else 0
def digitB (c : Nat) : Bool := decide (48 ≤ c ∧ c ≤ 57) || decide (97 ≤ c ∧ c ≤ 102)

theorem dig_mk {x y : Int} {a b : Bool} {m : Mem} (h : x = y) (h' : a = b) : some (Value.tuple ⟨[.int .u8 x, .bool a]⟩, m) = some (Value.tuple ⟨[.int .u8 y, .bool b]⟩, m) := by rw [h, h']

theorem digit_body (c : Nat) (hc : c < 256) : ∃ m', abody E self nf 66 [.int .u8 (c : Nat)] m = some (.tuple ⟨[.int .u8 (digitV c : Nat), .bool (digitB c)]⟩, m') := by
  rw [abody_eqF (by kernel_rfl) Tryd.func66 bodydig (by kernel_rfl) (Nat.le_of_ble_eq_true rfl)]
  rw [show Tryd.f66.ntmps = 21 from rfl]
  have e1 : wrapF .u8 (((c : Nat) : Int) - 48) = ((c : Int) - 48) % 256 := rfl
  have e2 : wrapF .u8 (wrapF .u8 (((c : Nat) : Int) - 97) + 10) = (((c : Int) - 97) % 256 + 10) % 256 := rfl
  cases h1 : decide (((c : Nat) : Int) ≥ 48) <;> cases h2 : decide (((c : Nat) : Int) ≤ 57) <;> cases h3 : decide (((c : Nat) : Int) ≥ 97) <;> cases h4 : decide (((c : Nat) : Int) ≤ 102) <;>
  simp only [rdig_0, rdig_1, rdig_2, rdig_3, rdig_4, rdig_5, Tryd.f66, List.append_eq, List.cons_append, List.nil_append, apure_call1, apure_call2, apure_call3, bft, btf, acodeN, List.getElem?_toArray, List.getElem?_cons_zero, List.getElem?_cons_succ, aopsN, adrawT, agd, cls, astep, aop, afloat, ev, nth_lst, get_lst, aput, setAt_lst, upd_at, init_zero, init_succ, init_nil, Nat.reduceLT, Nat.reduceEqDiff, reduceIte, abuiltin, alen, Option.map_some, Option.map_none, orElse_some, apure_add, apure_eql, apure_neq, List.map_cons, List.map_nil, List.all_cons, List.all_nil, lit2, lit1, lit0, List.isEmpty_nil, Bool.and_self, Bool.and_true, Bool.true_and, Bool.false_and, Bool.and_false, Bool.not_true, Bool.not_false, Bool.or_true, Bool.true_or, Bool.false_or, Bool.or_false, Bool.false_eq_true, if_true, if_false, List.length_map, beq_self_eq_true, und3, und4, und5, und9, geq8, leq8, sub8, add8, h1, h2, h3, h4, e1, e2, finish, ares, aresL, ares1] <;>
  simp only [decide_eq_true_eq, decide_eq_false_iff_not] at h1 h2 h3 h4 <;>
  (first
    | (exfalso; omega)
    | (refine ⟨m, dig_mk ?_ ?_⟩
       · unfold digitV
         split <;> (try split) <;> omega
       · symm
         unfold digitB
         first
           | (simp only [Bool.or_eq_true, decide_eq_true_eq]; omega)
           | (simp only [Bool.or_eq_false_iff, decide_eq_false_iff_not]; omega)))
end
end Go.Am.Seat
