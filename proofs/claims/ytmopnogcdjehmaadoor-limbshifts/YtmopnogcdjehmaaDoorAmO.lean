/-
  ref's Hex on the abstract machine (own work).
-/
import Derived.Test.YtmopnogcdjehmaaDoorAmN
import Derived.Test.YtmopnogcdjehmaaDoorAmY
set_option linter.unusedSimpArgs false
set_option linter.unusedVariables false
namespace Go.Am.Seat
open Go.Proofs Go.Am
set_option maxRecDepth 100000

def hexd (n : Nat) : UInt8 := if n < 10 then UInt8.ofNat (48 + n) else UInt8.ofNat (87 + n)
def hexOf (l : List UInt8) : List UInt8 := l.flatMap fun b => [hexd (b.toNat / 16), hexd (b.toNat % 16)]
def bytesOfL (l : List UInt8) : ByteArray := ⟨l.toArray⟩
theorem bytesOfL_list (l : List UInt8) : (bytesOfL l).data.toList = l := rfl
theorem ba_eq {a b : ByteArray} (h : a.data.toList = b.data.toList) : a = b := by
  obtain ⟨⟨a⟩⟩ := a
  obtain ⟨⟨b⟩⟩ := b
  simp only at h
  rw [h]
theorem ba_append (a b : ByteArray) : (a ++ b).data.toList = a.data.toList ++ b.data.toList := by
  rw [ByteArray.data_append]; simp
theorem ba_size (a : ByteArray) : a.size = a.data.toList.length := rfl
abbrev digitsS : ByteArray := ⟨#[48, 49, 50, 51, 52, 53, 54, 55, 56, 57, 97, 98, 99, 100, 101, 102]⟩
theorem dig_slice : ∀ k : Nat, k < 16 → sliceS digitsS (k : Nat) ((k + 1 : Nat) : Int) = some (.string (bytesOfL [hexd k]))
  | 0, _ => by rfl
  | 1, _ => by rfl
  | 2, _ => by rfl
  | 3, _ => by rfl
  | 4, _ => by rfl
  | 5, _ => by rfl
  | 6, _ => by rfl
  | 7, _ => by rfl
  | 8, _ => by rfl
  | 9, _ => by rfl
  | 10, _ => by rfl
  | 11, _ => by rfl
  | 12, _ => by rfl
  | 13, _ => by rfl
  | 14, _ => by rfl
  | 15, _ => by rfl
  | k + 16, h => absurd h (by omega)

theorem und9 : E.P.underlying 9 = some .string := Tryd.underlying9
theorem und5 : E.P.underlying 5 = some (.int .u8) := Tryd.underlying5
theorem und4 : E.P.underlying 4 = some .bool := Tryd.underlying4
theorem und3 : E.P.underlying 3 = some (.int .i64) := Tryd.underlying3
theorem bw3 (b : UInt8) : wrapF .i64 ((b.toNat : Nat) : Int) = ((b.toNat : Nat) : Int) := by
  have := b.toNat_lt
  exact wrap_i64 (by omega) (by omega)
theorem bq3 (b : UInt8) : wrapF .i64 (((b.toNat : Nat) : Int).tdiv 16) = ((b.toNat / 16 : Nat) : Int) := by
  have := b.toNat_lt
  rw [Int.tdiv_eq_ediv_of_nonneg (by omega), wrap_i64 (by omega) (by omega)]
  omega
theorem br3 (b : UInt8) : ((b.toNat : Nat) : Int).tmod 16 = ((b.toNat % 16 : Nat) : Int) := by
  rw [Int.tmod_eq_emod_of_nonneg (by omega)]
  omega
theorem w1 {i : Nat} (h : i < 1000000000) : wrapF .i64 ((i : Int) + 1) = ((i + 1 : Nat) : Int) := by
  rw [wrap_i64 (by omega) (by omega)]
  omega
theorem add64' (a b : Int) : abin .add .i64 a .i64 b = some (.int .i64 (wrapF .i64 (a + b))) := by kernel_rfl
theorem conv5_3 (k : Int) : aconv E.P 5 3 (.int .u8 k) = some (.int .i64 (wrapF .i64 k)) := by kernel_rfl
theorem quo16 (k : Int) : abin .quo .i64 k .i64 16 = some (.int .i64 (wrapF .i64 (k.tdiv 16))) := by kernel_rfl
theorem rem16 (k : Int) : abin .rem .i64 k .i64 16 = some (.int .i64 (k.tmod 16)) := by kernel_rfl
theorem index9 {s : ByteArray} {i : Nat} {b : UInt8} (h : s.data.toList[i]? = some b) : aindex E.P 9 (.string s) (.int .i64 (i : Nat)) = some (.int .u8 (b.toNat : Int)) := by
  unfold aindex
  simp only [und9]
  rw [if_pos (by omega), Int.toNat_natCast, h]

noncomputable def rrhex_0 : Array Oper := match Tryd.f41.body with
  | some (.seq (.region _ o _) _) => o
  | _ => #[]
noncomputable def rrhex_1 : Array Oper := match Tryd.f41.body with
  | some (.seq _ (.seq (.region _ o _) _)) => o
  | _ => #[]
noncomputable def rrhex_2 : Array Oper := match Tryd.f41.body with
  | some (.seq _ (.seq _ (.seq (.seq (.region _ o _) _) _))) => o
  | _ => #[]
noncomputable def lprhex_0 : Code := match Tryd.f41.body with
  | some (.seq _ (.seq _ (.seq (.seq _ (.block _ (.loop c))) _))) => c
  | _ => .skip
noncomputable def rrhex_3 : Array Oper := match Tryd.f41.body with
  | some (.seq _ (.seq _ (.seq (.seq _ (.block _ (.loop (.seq (.seq (.region _ o _) _) _)))) _))) => o
  | _ => #[]
noncomputable def rrhex_5 : Array Oper := match Tryd.f41.body with
  | some (.seq _ (.seq _ (.seq (.seq _ (.block _ (.loop (.seq _ (.seq (.block _ (.seq (.region _ o _) _)) _))))) _))) => o
  | _ => #[]
theorem drhex_5 {self : Self} {B : Nat} {T : List Value} {m : Mem} {lb : List (Nat × Nat)} {ls : Bool} : adrawN E self rrhex_5 B rrhex_5.toList 0 T m lb ls = adrawT E self rrhex_5 B rrhex_5.toList [(false, false), (false, false), (false, false), (false, false), (false, false), (false, false), (false, false), (false, false), (false, false), (false, false), (false, false), (false, false)] 0 T m lb ls := adraw_tab (by kernel_rfl)
noncomputable def rrhex_6 : Array Oper := match Tryd.f41.body with
  | some (.seq _ (.seq _ (.seq (.seq _ (.block _ (.loop (.seq _ (.seq (.block _ (.seq _ (.region _ o _))) _))))) _))) => o
  | _ => #[]
theorem drhex_6 {self : Self} {B : Nat} {T : List Value} {m : Mem} {lb : List (Nat × Nat)} {ls : Bool} : adrawN E self rrhex_6 B rrhex_6.toList 0 T m lb ls = adrawT E self rrhex_6 B rrhex_6.toList [(false, false), (false, false), (false, false), (false, false), (false, false), (false, false), (false, false), (false, false), (false, false), (false, false), (false, false), (false, false)] 0 T m lb ls := adraw_tab (by kernel_rfl)
noncomputable def rrhex_4 : Array Oper := match Tryd.f41.body with
  | some (.seq _ (.seq _ (.seq (.seq _ (.block _ (.loop (.seq _ (.seq _ (.region _ o _)))))) _))) => o
  | _ => #[]
theorem lprhex_0_eq : lprhex_0 = (.seq (.seq (.region 3 rrhex_3 false) (.cond (.tmp 10) .skip (.exit 0))) (.seq (.block 1 (.seq (.region 5 rrhex_5 true) (.region 6 rrhex_6 true))) (.region 4 rrhex_4 false))) := rfl
noncomputable def rrhex_7 : Array Oper := match Tryd.f41.body with
  | some (.seq _ (.seq _ (.seq _ (.seq (.region _ o _) _)))) => o
  | _ => #[]
theorem bodyrhex : Tryd.f41.body = some (.seq (.region 0 rrhex_0 false) (.seq (.region 1 rrhex_1 false) (.seq (.seq (.region 2 rrhex_2 false) (.block 0 (.loop lprhex_0))) (.seq (.region 7 rrhex_7 false) .ret)))) := rfl
-- ntmps 35

section
variable {self : Self} {nf : Nat} {m : Mem} {F : Nat → Value} {s out : ByteArray} {i : Nat}

theorem iter41 (h0 : F 0 = .string s) (h3 : F 3 = .string out) (h4 : F 4 = .int .i64 (i : Nat)) {b : UInt8} (hb : s.data.toList[i]? = some b) (hi : s.data.toList.length ≤ 100000) (ho : out.size ≤ 100000000) :
    ∃ F', acodeN E self nf lprhex_0 (lst F 35) m = some (.normal, lst F' 35, m) ∧ F' 0 = .string s ∧ F' 3 = .string (out ++ bytesOfL [hexd (b.toNat / 16)] ++ bytesOfL [hexd (b.toNat % 16)]) ∧ F' 4 = .int .i64 ((i + 1 : Nat) : Int) := by
  have hil := (List.getElem?_eq_some_iff.1 hb).1
  have hlt : decide (((i : Nat) : Int) < ((s.data.toList.length : Nat) : Int)) = true := by simpa using hil
  have hbt := b.toNat_lt
  have hq := w1 (i := b.toNat / 16) (by omega)
  have hr := w1 (i := b.toNat % 16) (by omega)
  have hd1 := dig_slice (b.toNat / 16) (by omega)
  have hd2 := dig_slice (b.toNat % 16) (by omega)
  have hs1 : out.size + (bytesOfL [hexd (b.toNat / 16)]).size ≤ 9223372036854775807 := by
    rw [show (bytesOfL [hexd (b.toNat / 16)]).size = 1 from rfl]; omega
  have hs2 : (out ++ bytesOfL [hexd (b.toNat / 16)]).size + (bytesOfL [hexd (b.toNat % 16)]).size ≤ 9223372036854775807 := by
    rw [ByteArray.size_append, show (bytesOfL [hexd (b.toNat / 16)]).size = 1 from rfl, show (bytesOfL [hexd (b.toNat % 16)]).size = 1 from rfl]; omega
  have hi1 := w1 (i := i) (by omega)
  have hdrhex_5 := @drhex_5
  simp only [rrhex_5, Tryd.f41] at hdrhex_5
  have hdrhex_6 := @drhex_6
  simp only [rrhex_6, Tryd.f41] at hdrhex_6
  simp only [lprhex_0_eq, hdrhex_5, hdrhex_6, rrhex_0, rrhex_1, rrhex_2, rrhex_3, rrhex_4, rrhex_5, rrhex_6, rrhex_7, Tryd.f41, List.append_eq, List.cons_append, List.nil_append, apure_call1, apure_call2, apure_call3, bft, btf, acodeN, List.getElem?_toArray, List.getElem?_cons_zero, List.getElem?_cons_succ, aopsN, adrawT, agd, cls, astep, aop, afloat, ev, nth_lst, get_lst, aput, setAt_lst, upd_at, init_zero, init_succ, init_nil, Nat.reduceLT, Nat.reduceEqDiff, reduceIte, abuiltin, alen, Option.map_some, Option.map_none, orElse_some, apure_add, apure_eql, apure_neq, List.map_cons, List.map_nil, List.all_cons, List.all_nil, lit2, lit1, lit0, List.isEmpty_nil, Bool.and_self, Bool.and_true, Bool.true_and, Bool.false_and, Bool.and_false, Bool.not_true, Bool.not_false, Bool.or_true, Bool.true_or, Bool.false_or, Bool.or_false, Bool.false_eq_true, if_true, if_false, List.length_map, beq_self_eq_true, und3, und4, und5, und9, h0, h3, h4, lss64, hlt, index9 hb, conv5_3, quo16, rem16, add64', bw3, bq3, br3, hq, hr, apure_slice2 und9, hd1, hd2, hs1, hs2, hi1]
  exact ⟨_, rfl, by simp only [upd_at, Nat.reduceEqDiff, reduceIte, h0], by simp only [upd_at, Nat.reduceEqDiff, reduceIte], by simp only [upd_at, Nat.reduceEqDiff, reduceIte]⟩

theorem last41 (h0 : F 0 = .string s) (h4 : F 4 = .int .i64 (i : Nat)) (hi : s.data.toList.length ≤ i) :
    ∃ F', acodeN E self nf lprhex_0 (lst F 35) m = some (.exit 0, lst F' 35, m) ∧ F' 3 = F 3 := by
  have hlt : decide (((i : Nat) : Int) < ((s.data.toList.length : Nat) : Int)) = false := by simpa using hi
  simp only [lprhex_0_eq, rrhex_3, Tryd.f41, List.append_eq, List.cons_append, List.nil_append, apure_call1, apure_call2, apure_call3, bft, btf, acodeN, List.getElem?_toArray, List.getElem?_cons_zero, List.getElem?_cons_succ, aopsN, adrawT, agd, cls, astep, aop, afloat, ev, nth_lst, get_lst, aput, setAt_lst, upd_at, init_zero, init_succ, init_nil, Nat.reduceLT, Nat.reduceEqDiff, reduceIte, abuiltin, alen, Option.map_some, Option.map_none, orElse_some, apure_add, apure_eql, apure_neq, List.map_cons, List.map_nil, List.all_cons, List.all_nil, lit2, lit1, lit0, List.isEmpty_nil, Bool.and_self, Bool.and_true, Bool.true_and, Bool.false_and, Bool.and_false, Bool.not_true, Bool.not_false, Bool.or_true, Bool.true_or, Bool.false_or, Bool.or_false, Bool.false_eq_true, if_true, if_false, List.length_map, beq_self_eq_true, und3, und4, und5, und9, h0, h4, lss64, hlt]
  exact ⟨_, rfl, by simp only [upd_at, Nat.reduceEqDiff, reduceIte]⟩

theorem hexOf_length (l : List UInt8) : (hexOf l).length = 2 * l.length := by
  induction l with
  | nil => rfl
  | cons a l ih =>
    show ([hexd (a.toNat / 16), hexd (a.toNat % 16)] ++ hexOf l).length = _
    simp [ih]
    omega

theorem hexOf_step {l : List UInt8} {i : Nat} {b : UInt8} (h : l[i]? = some b) : hexOf (l.take (i + 1)) = hexOf (l.take i) ++ [hexd (b.toNat / 16)] ++ [hexd (b.toNat % 16)] := by
  rw [List.take_add_one, h]
  simp [hexOf]

theorem loop41_run (hs : s.data.toList.length ≤ 1000) (h0 : F 0 = .string s) (h3 : F 3 = .string ⟨#[]⟩) (h4 : F 4 = .int .i64 0) {f : Nat} (hf : 1000 < f) :
    ∃ F', aloop (acodeN E self nf lprhex_0) f (lst F 35) m = some (.exit 0, lst F' 35, m) ∧ F' 3 = .string (bytesOfL (hexOf s.data.toList)) := by
  have := aloop_inv (body := acodeN E self nf lprhex_0) (N := s.data.toList.length)
    (I := fun i T m' => m' = m ∧ ∃ F, T = lst F 35 ∧ F 0 = .string s ∧ F 3 = .string (bytesOfL (hexOf (s.data.toList.take i))) ∧ F 4 = .int .i64 (i : Nat))
    (Q := fun e T m' => e = .exit 0 ∧ m' = m ∧ ∃ F', T = lst F' 35 ∧ F' 3 = .string (bytesOfL (hexOf s.data.toList))) (fun i T m' hi hI => by
      obtain ⟨rfl, F, rfl, g0, g3, g4⟩ := hI
      by_cases hlt : i < s.data.toList.length
      · left
        have hb : s.data.toList[i]? = some s.data.toList[i] := by simp [hlt]
        obtain ⟨F', hr, f0, f3, f4⟩ := iter41 (self := self) (nf := nf) (m := m') g0 g3 g4 hb (by omega) (by rw [ba_size, bytesOfL_list, hexOf_length]; simp; omega)
        refine ⟨_, _, hr, hlt, rfl, F', rfl, f0, ?_, f4⟩
        rw [f3]
        congr 1
        apply ba_eq
        rw [ba_append, ba_append, bytesOfL_list, bytesOfL_list, bytesOfL_list, bytesOfL_list, hexOf_step hb]
      · right
        obtain ⟨F', hr, f3⟩ := last41 (self := self) (nf := nf) (m := m') g0 g4 (by omega)
        refine ⟨_, _, _, hr, by simp, rfl, rfl, F', rfl, ?_⟩
        rw [f3, g3, List.take_of_length_le (by omega)]) s.data.toList.length 0 f (lst F 35) m (by omega) (by omega) ⟨rfl, F, rfl, h0, h3, h4⟩
  obtain ⟨e, T', m', hr, rfl, rfl, F', rfl, h⟩ := this
  exact ⟨F', hr, h⟩

theorem rhex_body (hs : s.data.toList.length ≤ 1000) (hf : 1000 < nf) : abody E self nf 41 [.string s] m = some (.string (bytesOfL (hexOf s.data.toList)), m) := by
  rw [abody_eqF (by kernel_rfl) Tryd.func41 bodyrhex (by kernel_rfl) (Nat.le_of_ble_eq_true rfl)]
  obtain ⟨F', hl, h3⟩ := loop41_run (self := self) (nf := nf) (m := m) (F := upd (upd (upd (init [.string s]) 2 (.string ⟨#[]⟩)) 3 (.string ⟨#[]⟩)) 4 (.int .i64 0)) hs rfl rfl rfl hf
  rw [show Tryd.f41.ntmps = 35 from rfl]
  simp only [rrhex_0, rrhex_1, rrhex_2, rrhex_7, Tryd.f41, List.append_eq, List.cons_append, List.nil_append, apure_call1, apure_call2, apure_call3, bft, btf, acodeN, List.getElem?_toArray, List.getElem?_cons_zero, List.getElem?_cons_succ, aopsN, adrawT, agd, cls, astep, aop, afloat, ev, nth_lst, get_lst, aput, setAt_lst, upd_at, init_zero, init_succ, init_nil, Nat.reduceLT, Nat.reduceEqDiff, reduceIte, abuiltin, alen, Option.map_some, Option.map_none, orElse_some, apure_add, apure_eql, apure_neq, List.map_cons, List.map_nil, List.all_cons, List.all_nil, lit2, lit1, lit0, List.isEmpty_nil, Bool.and_self, Bool.and_true, Bool.true_and, Bool.false_and, Bool.and_false, Bool.not_true, Bool.not_false, Bool.or_true, Bool.true_or, Bool.false_or, Bool.or_false, Bool.false_eq_true, if_true, if_false, List.length_map, beq_self_eq_true, und3, und4, und5, und9, hl, h3, finish, ares, aresL, ares1]
end
end Go.Am.Seat
