/-
  Texts of my own, put together: LT2, LT3, G7, LT4, LT5, LT6.
-/
import Derived.Test.YtfgincdpgdlfnaaDoorGrLimbTexts24
import Derived.Test.YtfgincdpgdlfnaaDoorGrLimbTexts22
import Derived.Test.YtfgincdpgdlfnaaDoorGrLimbTexts21
set_option linter.unusedSimpArgs false
set_option linter.unusedVariables false
set_option maxRecDepth 100000
namespace Go.Am.Seat
open Go.Proofs Go.Am Go.Am.Num Go.Am.Kn
theorem aU64 : ArrT 49 64 5 .u8 := ⟨Tryd.underlying49, und5, info_of (by kernel_rfl), info_of (by kernel_rfl)⟩
theorem allocU64 (m : Mem) : aalloc E.P 49 m = some (.pointer (some ⟨m.length, 0, none⟩), m ++ [.row false 49 (rowK .u8 64 fun _ => 0)]) := by kernel_rfl
theorem sliceU64 (b : Nat) (m : Mem) : aslice E.P 49 (.pointer (some ⟨b, 0, none⟩)) none none m = some (.slice (some ⟨b, 0, none⟩) 64 64) := by kernel_rfl
theorem quo8i {n : Nat} (h : n < 1000000) : abin .quo .i64 ((n : Nat) : Int) .i64 8 = some (.int .i64 ((n / 8 : Nat) : Int)) := by
  rw [quo8, Int.tdiv_eq_ediv_of_nonneg (by omega), wrap_i64 (by omega) (by omega)]
  rfl
theorem rem8i (n : Nat) : abin .rem .i64 ((n : Nat) : Int) .i64 8 = some (.int .i64 ((n % 8 : Nat) : Int)) := by
  rw [rem8, Int.tmod_eq_emod_of_nonneg (by omega)]
  rfl
theorem mul8i {n : Nat} (h : n < 1000000) : abin .mul .i64 8 .i64 ((n : Nat) : Int) = some (.int .i64 ((8 * n : Nat) : Int)) := by
  rw [show abin .mul .i64 8 .i64 ((n : Nat) : Int) = some (.int .i64 (wrapF .i64 (8 * ((n : Nat) : Int)))) by kernel_rfl, wrap_i64 (by omega) (by omega), Int.natCast_mul]
  rfl
section
variable {self : Self} {nf : Nat} {m M : Mem} {F : Nat → Value} {i p q : Nat} {w v : Nat → Nat} {be : TypeId} {ro : Bool}
theorem lby_it (h1 : F 1 = .pointer (some ⟨p, 0, none⟩)) (h3 : F 3 = .pointer (some ⟨q, 0, none⟩)) (h5 : F 5 = .int .i64 (i : Nat)) (hi : i < 64) (hp : M[p]? = some (.row ro be (rowOf w))) (hq : M[q]? = some (.row false 49 (rowK .u8 64 v))) :
    ∃ F', acodeN E self nf lplby_0 (lst F 22) M = some (.normal, lst F' 22, M.set q (.row false 49 (rowK .u8 64 fun j => if j = i then byW w i else v j))) ∧ F' 1 = F 1 ∧ F' 3 = F 3 ∧ F' 5 = .int .i64 ((i + 1 : Nat) : Int) := by
  have hlt : decide (((i : Nat) : Int) < 64) = true := decide_eq_true (by omega)
  have e1 := quo8i (n := i) (by omega)
  have e2 := rem8i i
  have e3 := mul8i (n := i % 8) (by omega)
  have i1 := ix24 (p := p) (k := i / 8) (by omega)
  have cp : cellAt M p (i / 8) = some (U (w (i / 8))) := by rw [cellAt_row hp, rowOf_get (by omega)]
  have s1 := shrN (x := w (i / 8)) (n := 8 * (i % 8)) (by omega)
  have c1 := conv22_5 (w (i / 8) / 2 ^ (8 * (i % 8)))
  rw [show w (i / 8) / 2 ^ (8 * (i % 8)) % 256 = byW w i from rfl] at c1
  have i2 := aU64.ix (p := q) hi
  have st := aU64.storeE (x := byW w i) hq hi
  have e4 := w1 (i := i) (by omega)
  generalize byW w i = V at *
  generalize w (i / 8) / 2 ^ (8 * (i % 8)) = Q at *
  generalize w (i / 8) = X at *
  generalize 8 * (i % 8) = Y at *
  simp only [lplby_0_eq, olby_0, olby_1, olby_2, olby_3, olby_4, olby_5, olby_6, olby_7, agd_none, gdAt, gdV_bool, gdV_undef, List.append_eq, List.cons_append, List.nil_append, apure_call1, apure_call2, apure_call3, bft, btf, acodeN, List.getElem?_toArray, List.getElem?_cons_zero, List.getElem?_cons_succ, aopsN, adrawT, cls, astep, aop, afloat, ev, nth_lst, get_lst, aput, setAt_lst, upd_at, init_zero, init_succ, init_nil, Nat.reduceLT, Nat.reduceEqDiff, reduceIte, abuiltin, alen, Option.map_some, Option.map_none, orElse_some, apure_add, apure_eqlV, eqlVal_str, eqlVal_bool, eqlVal_ptr, eqlVal_slice, eqlVal_wide, eqlVal_int, allT, ↓aop_eqlV, apure_neq, List.map_cons, List.map_nil, List.all_cons, List.all_nil, lit2, lit1, lit0, List.isEmpty_nil, bls, Bool.false_eq_true, if_true, if_false, List.length_map, beq_self_eq_true, uns, h1, h3, h5, lss64, hlt, e1, e2, e3, i1, load22, cp, s1, apure_convert, isAddr, c1, i2, st, add64', e4]
  exact ⟨_, rfl, by simp only [upd_at, Nat.reduceEqDiff, reduceIte, h1], by simp only [upd_at, Nat.reduceEqDiff, reduceIte, h3], by simp only [upd_at, Nat.reduceEqDiff, reduceIte]⟩
theorem lby_ex (h5 : F 5 = .int .i64 (i : Nat)) (hi : 64 ≤ i) : ∃ F', acodeN E self nf lplby_0 (lst F 22) M = some (.exit 0, lst F' 22, M) ∧ F' 3 = F 3 := by
  have hlt : decide (((i : Nat) : Int) < 64) = false := decide_eq_false (by omega)
  simp only [lplby_0_eq, olby_0, olby_1, olby_2, olby_3, olby_4, olby_5, olby_6, olby_7, agd_none, gdAt, gdV_bool, gdV_undef, List.append_eq, List.cons_append, List.nil_append, apure_call1, apure_call2, apure_call3, bft, btf, acodeN, List.getElem?_toArray, List.getElem?_cons_zero, List.getElem?_cons_succ, aopsN, adrawT, cls, astep, aop, afloat, ev, nth_lst, get_lst, aput, setAt_lst, upd_at, init_zero, init_succ, init_nil, Nat.reduceLT, Nat.reduceEqDiff, reduceIte, abuiltin, alen, Option.map_some, Option.map_none, orElse_some, apure_add, apure_eqlV, eqlVal_str, eqlVal_bool, eqlVal_ptr, eqlVal_slice, eqlVal_wide, eqlVal_int, allT, ↓aop_eqlV, apure_neq, List.map_cons, List.map_nil, List.all_cons, List.all_nil, lit2, lit1, lit0, List.isEmpty_nil, bls, Bool.false_eq_true, if_true, if_false, List.length_map, beq_self_eq_true, uns, h5, lss64, hlt]
  exact ⟨_, rfl, by simp only [upd_at, Nat.reduceEqDiff, reduceIte]⟩
theorem lby_body (hnf : 100 < nf) : ∃ m', abody E self nf 11 [wide w] m = some (.string (byS w), m') := by
  rw [abody_eqF (by kernel_rfl) Tryd.func11 bodylby (by kernel_rfl) (Nat.le_of_ble_eq_true rfl)]
  rw [show Tryd.f11.ntmps = 22 from rfl]
  have b1 := box24 w m
  have l1 : (m ++ [Blk.row false 24 (rowOf w)]).length = m.length + 1 := by simp
  have b2 := allocU64 (m ++ [Blk.row false 24 (rowOf w)])
  rw [l1] at b2
  obtain ⟨M, hM⟩ : ∃ M, M = m ++ [Blk.row false 24 (rowOf w)] ++ [.row false 49 (rowK .u8 64 fun _ => 0)] := ⟨_, rfl⟩
  have hp : M[m.length]? = some (.row false 24 (rowOf w)) := by rw [hM, List.getElem?_append_left (by simp)]; simp
  have hq : M[m.length + 1]? = some (.row false 49 (rowK .u8 64 fun _ => 0)) := by rw [hM, List.getElem?_append_right (by simp)]; simp
  rw [← hM] at b2
  clear hM l1
  have hloop := aloop_inv (body := acodeN E self nf lplby_0) (N := 64)
    (I := fun i T m' => m'[m.length]? = some (.row false 24 (rowOf w)) ∧ m'[m.length + 1]? = some (.row false 49 (rowK .u8 64 fun j => if j < i then byW w j else 0)) ∧ ∃ G, T = lst G 22 ∧ G 1 = .pointer (some ⟨m.length, 0, none⟩) ∧ G 3 = .pointer (some ⟨m.length + 1, 0, none⟩) ∧ G 5 = .int .i64 (i : Nat))
    (Q := fun e T m' => e = .exit 0 ∧ m'[m.length + 1]? = some (.row false 49 (rowK .u8 64 (byW w))) ∧ ∃ G, T = lst G 22 ∧ G 3 = .pointer (some ⟨m.length + 1, 0, none⟩)) (fun i T m' hi hI => by
      obtain ⟨gp, gq, G, rfl, g1, g3, g5⟩ := hI
      by_cases hlt : i < 64
      · left
        obtain ⟨F', hr, f1, f3, f5⟩ := lby_it (self := self) (nf := nf) g1 g3 g5 hlt gp gq
        refine ⟨_, _, hr, hlt, ?_, ?_, F', rfl, f1.trans g1, f3.trans g3, f5⟩
        · rw [List.getElem?_set_ne (by omega)]; exact gp
        rw [List.getElem?_set_self (lt_of_at gq)]
        refine congrArg (fun l => some (Blk.row false 49 l)) (rowK_ext fun j _ => ?_)
        by_cases hj : j = i
        · subst hj
          rw [if_pos rfl, if_pos (by omega)]
        · rw [if_neg hj]
          by_cases hj2 : j < i
          · rw [if_pos hj2, if_pos (by omega)]
          · rw [if_neg hj2, if_neg (by omega)]
      · right
        obtain ⟨F', hr, f3⟩ := lby_ex (self := self) (nf := nf) (M := m') g5 (by omega)
        refine ⟨_, _, _, hr, by simp, rfl, ?_, F', rfl, f3.trans g3⟩
        rw [gq]
        exact congrArg (fun l => some (Blk.row false 49 l)) (rowK_ext fun j hj => by rw [if_pos (by omega)]))
  obtain ⟨e, T', M', hr, rfl, gq, G, rfl, g3⟩ := hloop 64 0 nf (lst (upd (upd (upd (upd (init [wide w]) 1 (.pointer (some ⟨m.length, 0, none⟩))) 2 (.string ⟨#[]⟩)) 3 (.pointer (some ⟨m.length + 1, 0, none⟩))) 5 (.int .i64 0)) 22) M (by omega) (by omega) ⟨hp, by rw [hq]; exact congrArg (fun l => some (Blk.row false 49 l)) (rowK_ext fun j _ => by rw [if_neg (by omega)]), _, rfl, rfl, rfl, rfl⟩
  have hc := conv35_str (n := 64) (c := 64) (l := byL w 64) gq (by rw [List.take_of_length_le (by rw [rowK_length]; omega), rowK, byL, List.map_map]; rfl) (by rw [rowK_length]; omega)
  rw [show bytesOfL ((byL w 64).map fun n => UInt8.ofNat n.toNat) = byS w from rfl] at hc
  generalize byS w = Y at *
  simp only [olby_0, olby_1, olby_2, olby_3, olby_4, olby_5, olby_6, olby_7, agd_none, gdAt, gdV_bool, gdV_undef, bodylby, List.append_eq, List.cons_append, List.nil_append, apure_call1, apure_call2, apure_call3, bft, btf, acodeN, List.getElem?_toArray, List.getElem?_cons_zero, List.getElem?_cons_succ, aopsN, adrawT, cls, astep, aop, afloat, ev, nth_lst, get_lst, aput, setAt_lst, upd_at, init_zero, init_succ, init_nil, Nat.reduceLT, Nat.reduceEqDiff, reduceIte, abuiltin, alen, Option.map_some, Option.map_none, orElse_some, apure_add, apure_eqlV, eqlVal_str, eqlVal_bool, eqlVal_ptr, eqlVal_slice, eqlVal_wide, eqlVal_int, allT, ↓aop_eqlV, apure_neq, List.map_cons, List.map_nil, List.all_cons, List.all_nil, lit2, lit1, lit0, List.isEmpty_nil, bls, Bool.false_eq_true, if_true, if_false, List.length_map, beq_self_eq_true, uns, b1, b2, hr, g3, sliceU64, aconv35, apure_convert, isAddr, hc, finish, ares, aresL, ares1, Tryd.f11]
  exact ⟨_, rfl⟩
end
def CByW (self : Self) : Prop := ∀ x, x < W8 → Ans self 11 [wd x] (.string (byS (wN x)))
theorem kByW {R : Nat → Self} {K : List Fact} (hR : Runs R K) {n : Nat} (hK : hasF K 11 = false) (hn : 1001 ≤ n) : CByW (R n) := by
  obtain ⟨j, rfl⟩ : ∃ j, n = j + 1 := ⟨n - 1, by omega⟩
  intro x hx
  refine ans_of rfl (by kernel_rfl) rfl fun m => ?_
  obtain ⟨m', h⟩ := lby_body (self := R j) (nf := j + 1) (m := m) (w := wN x) (by omega)
  exact ⟨m', hR.b hK h⟩
end Go.Am.Seat
namespace Go.Am.Seat
open Go.Proofs Go.Am Go.Am.Num Go.Am.Kn
def parAns (l : List Nat) : Value := if l.length ≤ 64 then .tuple ⟨[wd (val l), .int .i64 0]⟩ else .tuple ⟨[wd 0, .int .i64 5]⟩
theorem conv5_22L {x : Nat} (hx : x < 256) : aconv E.P 5 22 (.int .u8 ((x : Nat) : Int)) = some (.int .u64 ((x : Nat) : Int)) := by
  have h : ∀ k : Int, aconv E.P 5 22 (.int .u8 k) = some (.int .u64 (k % 18446744073709551616)) := fun k => by kernel_rfl
  rw [h]
  congr 2
  omega
section
variable {self : Self} {nf : Nat} {m M : Mem} {F : Nat → Value} {i p q r n : Nat} {w v : Nat → Nat} {be : TypeId} {ro : Bool} {s : ByteArray}
theorem lpa_it {ch : UInt8} (h0 : F 0 = .string s) (h4 : F 4 = .pointer (some ⟨q, 0, none⟩)) (h11 : F 11 = .int .i64 (n : Nat)) (h12 : F 12 = .int .i64 (i : Nat)) (hi : i < n) (hn : n ≤ 64) (hx : s.data.toList[i]? = some ch) (hq : M[q]? = some (.row false 24 (rowOf w))) (hw : w (i / 8) < 18446744073709551616) :
    ∃ F', acodeN E self nf lplpa_0 (lst F 31) M = some (.normal, lst F' 31, M.set q (.row false 24 (rowOf (putW w (i / 8) (w (i / 8) ||| ch.toNat <<< (8 * (i % 8))))))) ∧ F' 0 = F 0 ∧ F' 2 = F 2 ∧ F' 4 = F 4 ∧ F' 11 = F 11 ∧ F' 12 = .int .i64 ((i + 1 : Nat) : Int) := by
  have hlt : decide (((i : Nat) : Int) < ((n : Nat) : Int)) = true := decide_eq_true (by omega)
  have e1 := quo8i (n := i) (by omega)
  have e2 := rem8i i
  have e3 := mul8i (n := i % 8) (by omega)
  have i1 := ix24 (p := q) (k := i / 8) (by omega)
  have cp : cellAt M q (i / 8) = some (U (w (i / 8))) := by rw [cellAt_row hq, rowOf_get (by omega)]
  have cps : cellAt (M.map Am.sealed) q (i / 8) = some (U (w (i / 8))) := by rw [cellAt_row (ro := true) (e := 24) (cs := rowOf w) (by rw [List.getElem?_map, hq]; rfl), rowOf_get (by omega)]
  have ix := index9 hx
  have hb := ch.toNat_lt
  have c1 := conv5_22L (x := ch.toNat) hb
  have s1 := shlN (x := ch.toNat) (n := 8 * (i % 8)) (by omega)
  have hs : ch.toNat * 2 ^ (8 * (i % 8)) < 18446744073709551616 := by
    have h1 : 2 ^ (8 * (i % 8)) ≤ 2 ^ 56 := Nat.pow_le_pow_right (by decide) (by omega)
    have h2 : ch.toNat * 2 ^ (8 * (i % 8)) ≤ 255 * 2 ^ 56 := Nat.mul_le_mul (by omega) h1
    omega
  rw [Nat.mod_eq_of_lt hs, ← Nat.shiftLeft_eq] at s1
  rw [← Nat.shiftLeft_eq] at hs
  have o1 := orN hw hs
  have st := store22 (x := w (i / 8) ||| ch.toNat <<< (8 * (i % 8))) hq (k := i / 8) (by omega)
  change astore E.P _ _ _ M = some (M.set q (.row false 24 (rowOf (putW w (i / 8) (w (i / 8) ||| ch.toNat <<< (8 * (i % 8))))))) at st
  have e4 := w1 (i := i) (by omega)
  generalize w (i / 8) ||| ch.toNat <<< (8 * (i % 8)) = V at *
  generalize ch.toNat <<< (8 * (i % 8)) = Q at *
  generalize w (i / 8) = X at *
  generalize ch.toNat = B at *
  generalize 8 * (i % 8) = Y at *
  generalize M.set q (.row false 24 (rowOf (putW w (i / 8) V))) = M1 at *
  simp only [lplpa_0_eq, ↓dlpa_7, ↓slpa_7, olpa_0, olpa_1, olpa_2, olpa_3, olpa_4, olpa_5, olpa_6, olpa_7, olpa_8, olpa_9, agd_none, gdAt, gdV_bool, gdV_undef, List.append_eq, List.cons_append, List.nil_append, apure_call1, apure_call2, apure_call3, bft, btf, acodeN, List.getElem?_toArray, List.getElem?_cons_zero, List.getElem?_cons_succ, aopsN, adrawT, cls, astep, aop, afloat, ev, nth_lst, get_lst, aput, setAt_lst, upd_at, init_zero, init_succ, init_nil, Nat.reduceLT, Nat.reduceEqDiff, reduceIte, abuiltin, alen, Option.map_some, Option.map_none, orElse_some, apure_add, apure_eqlV, eqlVal_str, eqlVal_bool, eqlVal_ptr, eqlVal_slice, eqlVal_wide, eqlVal_int, allT, ↓aop_eqlV, apure_neq, List.map_cons, List.map_nil, List.all_cons, List.all_nil, lit2, lit1, lit0, List.isEmpty_nil, bls, Bool.false_eq_true, if_true, if_false, List.length_map, beq_self_eq_true, uns, h0, h4, h11, h12, lss64, hlt, e1, e2, e3, i1, load22, cp, cps, und22, ix, s1, apure_convert, isAddr, c1, o1, st, add64', e4]
  exact ⟨_, rfl, by simp only [upd_at, Nat.reduceEqDiff, reduceIte, h0], by simp only [upd_at, Nat.reduceEqDiff, reduceIte], by simp only [upd_at, Nat.reduceEqDiff, reduceIte, h4], by simp only [upd_at, Nat.reduceEqDiff, reduceIte, h11], by simp only [upd_at, Nat.reduceEqDiff, reduceIte]⟩
theorem lpa_ex (h11 : F 11 = .int .i64 (n : Nat)) (h12 : F 12 = .int .i64 (n : Nat)) : ∃ F', acodeN E self nf lplpa_0 (lst F 31) M = some (.exit 0, lst F' 31, M) ∧ F' 2 = F 2 ∧ F' 4 = F 4 := by
  have hlt : decide (((n : Nat) : Int) < ((n : Nat) : Int)) = false := decide_eq_false (by omega)
  simp only [lplpa_0_eq, ↓dlpa_7, ↓slpa_7, olpa_0, olpa_1, olpa_2, olpa_3, olpa_4, olpa_5, olpa_6, olpa_7, olpa_8, olpa_9, agd_none, gdAt, gdV_bool, gdV_undef, List.append_eq, List.cons_append, List.nil_append, apure_call1, apure_call2, apure_call3, bft, btf, acodeN, List.getElem?_toArray, List.getElem?_cons_zero, List.getElem?_cons_succ, aopsN, adrawT, cls, astep, aop, afloat, ev, nth_lst, get_lst, aput, setAt_lst, upd_at, init_zero, init_succ, init_nil, Nat.reduceLT, Nat.reduceEqDiff, reduceIte, abuiltin, alen, Option.map_some, Option.map_none, orElse_some, apure_add, apure_eqlV, eqlVal_str, eqlVal_bool, eqlVal_ptr, eqlVal_slice, eqlVal_wide, eqlVal_int, allT, ↓aop_eqlV, apure_neq, List.map_cons, List.map_nil, List.all_cons, List.all_nil, lit2, lit1, lit0, List.isEmpty_nil, bls, Bool.false_eq_true, if_true, if_false, List.length_map, beq_self_eq_true, uns, h11, h12, lss64, hlt]
  exact ⟨_, rfl, by simp only [upd_at, Nat.reduceEqDiff, reduceIte], by simp only [upd_at, Nat.reduceEqDiff, reduceIte]⟩
theorem lpa_body (hnf : 100 < nf) : ∃ m', abody E self nf 5 [.string s] m = some (parAns (natsOf s), m') := by
  rw [abody_eqF (by kernel_rfl) Tryd.func5 bodylpa (by kernel_rfl) (Nat.le_of_ble_eq_true rfl)]
  rw [show Tryd.f5.ntmps = 31 from rfl]
  have hnl := natsOf_len s
  unfold parAns
  have b1 := alloc24 m
  have hr : (m ++ [Blk.row false 24 (rowOf fun _ => 0)])[m.length]? = some (.row false 24 (rowOf fun _ => 0)) := by rw [List.getElem?_append_right (Nat.le_refl _)]; simp
  rw [hnl]
  by_cases h64 : s.data.toList.length ≤ 64
  · rw [if_pos h64]
    have q1 : decide (((s.data.toList.length : Nat) : Int) > 64) = false := decide_eq_false (by omega)
    have l1 : (m ++ [Blk.row false 24 (rowOf fun _ => 0)]).length = m.length + 1 := by simp
    have b2 := alloc24 (m ++ [Blk.row false 24 (rowOf fun _ => 0)])
    rw [l1] at b2
    obtain ⟨M, hM⟩ : ∃ M, M = m ++ [Blk.row false 24 (rowOf fun _ => 0)] ++ [.row false 24 (rowOf fun _ => 0)] := ⟨_, rfl⟩
    have gr : M[m.length]? = some (.row false 24 (rowOf fun _ => 0)) := by rw [hM, List.getElem?_append_left (by simp)]; exact hr
    have gq : M[m.length + 1]? = some (.row false 24 (rowOf fun _ => 0)) := by rw [hM, List.getElem?_append_right (by simp)]; simp
    rw [← hM] at b2
    clear hM l1 hr
    have hloop := aloop_inv (body := acodeN E self nf lplpa_0) (N := s.data.toList.length)
      (I := fun k T m' => m'[m.length]? = some (.row false 24 (rowOf fun _ => 0)) ∧ m'[m.length + 1]? = some (.row false 24 (rowOf (wpar ((natsOf s).take k)))) ∧ ∃ G, T = lst G 31 ∧ G 0 = .string s ∧ G 2 = .pointer (some ⟨m.length, 0, none⟩) ∧ G 4 = .pointer (some ⟨m.length + 1, 0, none⟩) ∧ G 11 = .int .i64 (s.data.toList.length : Nat) ∧ G 12 = .int .i64 (k : Nat))
      (Q := fun e T m' => e = .exit 0 ∧ m'[m.length]? = some (.row false 24 (rowOf fun _ => 0)) ∧ m'[m.length + 1]? = some (.row false 24 (rowOf (wpar (natsOf s)))) ∧ ∃ G, T = lst G 31 ∧ G 2 = .pointer (some ⟨m.length, 0, none⟩) ∧ G 4 = .pointer (some ⟨m.length + 1, 0, none⟩)) (fun k T m' hk hI => by
        obtain ⟨gr, gq, G, rfl, g0, g2, g4, g11, g12⟩ := hI
        by_cases hlt : k < s.data.toList.length
        · left
          have hx : s.data.toList[k]? = some (s.data.toList[k]'hlt) := by simp [hlt]
          have hn : (natsOf s)[k]? = some (s.data.toList[k]'hlt).toNat := by unfold natsOf; rw [List.getElem?_map, hx]; rfl
          generalize s.data.toList[k]'hlt = ch at hx hn
          have hb : ∀ x, x ∈ (natsOf s).take k → x < 256 := fun x hx => natsOf_lt s x (List.mem_of_mem_take hx)
          obtain ⟨F', hr, f0, f2, f4, f11, f12⟩ := lpa_it (self := self) (nf := nf) g0 g4 g11 g12 hlt h64 hx gq (wpar_lt hb _)
          refine ⟨_, _, hr, hlt, ?_, ?_, F', rfl, f0.trans g0, f2.trans g2, f4.trans g4, f11.trans g11, f12⟩
          · rw [List.getElem?_set_ne (by omega)]; exact gr
          · rw [List.getElem?_set_self (lt_of_at gq)]
            have hl : ((natsOf s).take k).length = k := by rw [List.length_take, hnl, Nat.min_eq_left hk]
            have ht : (natsOf s).take (k + 1) = (natsOf s).take k ++ [ch.toNat] := by rw [List.take_add_one, hn]; rfl
            rw [ht]
            refine congrArg (fun u => some (Blk.row false 24 (rowOf u))) (funext fun j => ?_)
            unfold putW
            by_cases hj : j = k / 8
            · subst hj
              have := wpar_eq (b := ch.toNat) hb
              rw [hl] at this
              rw [if_pos rfl, this]
            · rw [if_neg hj, wpar_ne (by rw [hl]; exact hj)]
        · right
          have hke : k = s.data.toList.length := by omega
          subst hke
          obtain ⟨F', hr, f2, f4⟩ := lpa_ex (self := self) (nf := nf) (M := m') g11 g12
          rw [← hnl, List.take_length] at gq
          exact ⟨_, _, _, hr, by simp, rfl, gr, gq, F', rfl, f2.trans g2, f4.trans g4⟩)
    obtain ⟨e, T', M', hl, rfl, gr, gq, G, rfl, g2, g4⟩ := hloop s.data.toList.length 0 nf (lst (upd (upd (upd (upd (upd (upd (upd (upd (upd (init [.string s]) 2 (.pointer (some ⟨m.length, 0, none⟩))) 3 (.int .i64 0)) 6 (.string s)) 7 (.int .i64 (s.data.toList.length : Nat))) 8 (.bool false)) 4 (.pointer (some ⟨m.length + 1, 0, none⟩))) 10 (.string s)) 11 (.int .i64 (s.data.toList.length : Nat))) 12 (.int .i64 0)) 31) M (by omega) (by omega) ⟨gr, by rw [gq, List.take_zero]; exact congrArg (fun u => some (Blk.row false 24 (rowOf u))) (funext fun j => (wpar_nil j).symm), _, rfl, rfl, rfl, rfl, rfl, rfl⟩
    have ld := load24 gq
    have st := store24 (w := wpar (natsOf s)) gr (rowOf_length _)
    have ld2 : aload E.P 24 (.pointer (some ⟨m.length, 0, none⟩)) (M'.set m.length (.row false 24 (rowOf (wpar (natsOf s))))) = some (wide (wpar (natsOf s))) := load24 (by rw [List.getElem?_set_self (lt_of_at gr)])
    rw [← wpar_wide (natsOf_lt s) (by omega)]
    refine ⟨M'.set m.length (.row false 24 (rowOf (wpar (natsOf s)))), ?_⟩
    generalize M'.set m.length (.row false 24 (rowOf (wpar (natsOf s)))) = m9 at *
    generalize wide (wpar (natsOf s)) = V at *
    simp only [↓dlpa_7, ↓slpa_7, olpa_0, olpa_1, olpa_2, olpa_3, olpa_4, olpa_5, olpa_6, olpa_7, olpa_8, olpa_9, agd_none, gdAt, gdV_bool, gdV_undef, List.append_eq, List.cons_append, List.nil_append, apure_call1, apure_call2, apure_call3, bft, btf, acodeN, List.getElem?_toArray, List.getElem?_cons_zero, List.getElem?_cons_succ, aopsN, adrawT, cls, astep, aop, afloat, ev, nth_lst, get_lst, aput, setAt_lst, upd_at, init_zero, init_succ, init_nil, Nat.reduceLT, Nat.reduceEqDiff, reduceIte, abuiltin, alen, Option.map_some, Option.map_none, orElse_some, apure_add, apure_eqlV, eqlVal_str, eqlVal_bool, eqlVal_ptr, eqlVal_slice, eqlVal_wide, eqlVal_int, allT, ↓aop_eqlV, apure_neq, List.map_cons, List.map_nil, List.all_cons, List.all_nil, lit2, lit1, lit0, List.isEmpty_nil, bls, Bool.false_eq_true, if_true, if_false, List.length_map, beq_self_eq_true, uns, b1, b2, len_S, alen, gtr64', q1, hl, g2, g4, ld, st, ld2, finish, ares, aresL, ares1, Tryd.f5]
  · rw [if_neg h64]
    have q1 : decide (((s.data.toList.length : Nat) : Int) > 64) = true := decide_eq_true (by omega)
    have st := store24 (w := fun _ => 0) hr (rowOf_length _)
    rw [← wd_zero] at st
    have ld2 : aload E.P 24 (.pointer (some ⟨m.length, 0, none⟩)) ((m ++ [Blk.row false 24 (rowOf fun _ => 0)]).set m.length (.row false 24 (rowOf fun _ => 0))) = some (wd 0) := by
      rw [wd_zero]
      exact load24 (by rw [List.getElem?_set_self (lt_of_at hr)])
    refine ⟨(m ++ [Blk.row false 24 (rowOf fun _ => 0)]).set m.length (.row false 24 (rowOf fun _ => 0)), ?_⟩
    generalize (m ++ [Blk.row false 24 (rowOf fun _ => 0)]).set m.length (.row false 24 (rowOf fun _ => 0)) = m9 at *
    rw [wd_zero] at st ld2 ⊢
    simp only [↓dlpa_7, ↓slpa_7, olpa_0, olpa_1, olpa_2, olpa_3, olpa_4, olpa_5, olpa_6, olpa_7, olpa_8, olpa_9, agd_none, gdAt, gdV_bool, gdV_undef, List.append_eq, List.cons_append, List.nil_append, apure_call1, apure_call2, apure_call3, bft, btf, acodeN, List.getElem?_toArray, List.getElem?_cons_zero, List.getElem?_cons_succ, aopsN, adrawT, cls, astep, aop, afloat, ev, nth_lst, get_lst, aput, setAt_lst, upd_at, init_zero, init_succ, init_nil, Nat.reduceLT, Nat.reduceEqDiff, reduceIte, abuiltin, alen, Option.map_some, Option.map_none, orElse_some, apure_add, apure_eqlV, eqlVal_str, eqlVal_bool, eqlVal_ptr, eqlVal_slice, eqlVal_wide, eqlVal_int, allT, ↓aop_eqlV, apure_neq, List.map_cons, List.map_nil, List.all_cons, List.all_nil, lit2, lit1, lit0, List.isEmpty_nil, bls, Bool.false_eq_true, if_true, if_false, List.length_map, beq_self_eq_true, uns, b1, len_S, alen, gtr64', q1, build24, st, ld2, finish, ares, aresL, ares1, Tryd.f5]
end
def CPaW (self : Self) : Prop := ∀ s : ByteArray, Ans self 5 [.string s] (parAns (natsOf s))
theorem parAns_lit (l : List Nat) : lit2 (parAns l) = true := by unfold parAns; split <;> rfl
theorem kPaW {R : Nat → Self} {K : List Fact} (hR : Runs R K) {n : Nat} (hK : hasF K 5 = false) (hn : 1001 ≤ n) : CPaW (R n) := by
  obtain ⟨j, rfl⟩ : ∃ j, n = j + 1 := ⟨n - 1, by omega⟩
  intro s
  refine ans_of rfl (by kernel_rfl) (parAns_lit _) fun m => ?_
  obtain ⟨m', h⟩ := lpa_body (self := R j) (nf := j + 1) (m := m) (s := s) (by omega)
  exact ⟨m', hR.b hK h⟩
end Go.Am.Seat
namespace Go.Am.Seat
open Go.Proofs Go.Am Go.Am.Num
-- ntmps 23
theorem dig_at : ∀ (i x : Nat), i < (dig x).length → (dig x)[i]? = some (x / 256 ^ i % 256)
  | 0, x, h => by
    have hx : x ≠ 0 := by intro h0; subst h0; rw [dig_zero] at h; simp at h
    rw [dig_pos hx]
    simp
  | i + 1, x, h => by
    have hx : x ≠ 0 := by intro h0; subst h0; rw [dig_zero] at h; simp at h
    rw [dig_pos hx] at h ⊢
    rw [List.getElem?_cons_succ, dig_at i (x / 256) (by simpa using h), Nat.div_div_eq_div_mul, Nat.pow_succ, Nat.mul_comm 256]
theorem dig_past {i x : Nat} (h : (dig x).length ≤ i) : x / 256 ^ i % 256 = 0 := by
  have h1 := lt_dig_len x
  have h2 : 256 ^ (dig x).length ≤ 256 ^ i := Nat.pow_le_pow_right (by omega) h
  rw [Nat.div_eq_of_lt (by omega)]
theorem low_part (Y : Nat) : ∀ r, r < 8 → Y % 18446744073709551616 / 2 ^ (8 * r) % 256 = Y / 2 ^ (8 * r) % 256
  | 0, _ => by simp only [Nat.mul_zero, Nat.pow_zero, Nat.div_one]; omega
  | 1, _ => by simp only [Nat.reduceMul, Nat.reducePow]; omega
  | 2, _ => by simp only [Nat.reduceMul, Nat.reducePow]; omega
  | 3, _ => by simp only [Nat.reduceMul, Nat.reducePow]; omega
  | 4, _ => by simp only [Nat.reduceMul, Nat.reducePow]; omega
  | 5, _ => by simp only [Nat.reduceMul, Nat.reducePow]; omega
  | 6, _ => by simp only [Nat.reduceMul, Nat.reducePow]; omega
  | 7, _ => by simp only [Nat.reduceMul, Nat.reducePow]; omega
  | r + 8, h => by omega
theorem conv3_5n {x : Nat} (h : x < 256) : aconv E.P 3 5 (.int .i64 ((x : Nat) : Int)) = some (.int .u8 ((x : Nat) : Int)) := by
  rw [conv3_5]
  congr 2
  omega
section
variable {self : Self} {nf : Nat} {m M : Mem} {F : Nat → Value} {a : Value} {x i q : Nat} {v : Nat → Nat}
end
end Go.Am.Seat
namespace Go.Am.Seat
open Go.Proofs Go.Am Go.Am.Num Go.Am.Kn
theorem byW_wN (x t : Nat) : byW (wN x) t = x / 256 ^ t % 256 := by
  unfold byW wN
  rw [low_part _ _ (Nat.mod_lt _ (by omega)), Nat.div_div_eq_div_mul]
  have e1 : (18446744073709551616 : Nat) = 256 ^ 8 := by decide
  have e2 : (2 : Nat) ^ (8 * (t % 8)) = 256 ^ (t % 8) := by rw [Nat.pow_mul]
  rw [e1, e2, ← Nat.pow_mul, ← Nat.pow_add, Nat.div_add_mod]
theorem make35w (m : Mem) : amakeSlice E.P 41 (.int .i64 64) (.int .i64 64) m = some (.slice (some ⟨m.length, 0, none⟩) 64 64, m ++ [.row false 5 (rowK .u8 64 fun _ => 0)]) := by kernel_rfl
theorem ix35w {b L c j : Nat} (h : j < L) : aindexAddr E.P 41 (.slice (some ⟨b, 0, none⟩) L c) (.int .i64 (j : Nat)) = some (.pointer (some ⟨b, j, none⟩)) := by
  obtain ⟨i, h1, h2⟩ := info_of (t := 5) (n := 1) (by kernel_rfl)
  unfold aindexAddr
  simp only [show E.P.underlying 41 = some (.slice 5) from Tryd.underlying41, h1]
  rw [if_pos (by omega)]
  simp [h2]
section
variable {self : Self} {nf : Nat} {m M : Mem} {F : Nat → Value} {a : Value} {x i q : Nat} {v : Nat → Nat}
theorem rbw_it (h0 : F 0 = a) (h1 : F 1 = .int .i64 64) (h5 : F 5 = .slice (some ⟨q, 0, none⟩) 64 64) (h6 : F 6 = .int .i64 (i : Nat)) (hN : NumA M a (dig x)) (hi : i < (dig x).length) (hi9 : i < 64) (hq : M[q]? = some (.row false 5 (rowK .u8 64 v))) :
    ∃ F', acodeN E self nf lprby_0 (lst F 30) M = some (.normal, lst F' 30, M.set q (.row false 5 (rowK .u8 64 fun j => if j = i then x / 256 ^ i % 256 else v j))) ∧ F' 0 = F 0 ∧ F' 1 = F 1 ∧ F' 5 = F 5 ∧ F' 6 = .int .i64 ((i + 1 : Nat) : Int) := by
  have q1 : decide (((i : Nat) : Int) < (((dig x).length : Nat) : Int)) = true := decide_eq_true (by omega)
  have q2 : decide (((i : Nat) : Int) < 64) = true := decide_eq_true (by omega)
  have la := hN.1
  obtain ⟨b, o, i1, c1⟩ := hN.2 i _ (dig_at i x hi)
  have hd : x / 256 ^ i % 256 < 256 := Nat.mod_lt _ (by omega)
  generalize x / 256 ^ i % 256 = d at *
  have i2 := ix35w (b := q) (L := 64) (c := 64) (j := i) hi9
  have st := aU64.storeE (x := d) hq hi9
  have e4 := w1 (i := i) (by omega)
  simp only [lprby_0_eq, orby_0, orby_1, orby_2, orby_3, orby_4, orby_5, orby_6, grby_3_3, agd_none, gdAt, gdV_bool, gdV_undef, List.append_eq, List.cons_append, List.nil_append, apure_call1, apure_call2, apure_call3, bft, btf, acodeN, List.getElem?_toArray, List.getElem?_cons_zero, List.getElem?_cons_succ, aopsN, adrawT, cls, astep, aop, afloat, ev, nth_lst, get_lst, aput, setAt_lst, upd_at, init_zero, init_succ, init_nil, Nat.reduceLT, Nat.reduceEqDiff, reduceIte, len_N, abuiltin_app, Option.map_some, Option.map_none, orElse_some, apure_add, apure_eqlV, eqlVal_str, eqlVal_bool, eqlVal_ptr, eqlVal_slice, eqlVal_wide, eqlVal_int, allT, ↓aop_eqlV, apure_neq, List.map_cons, List.map_nil, List.all_cons, List.all_nil, lit2, lit1, lit0, List.isEmpty_nil, bls, Bool.false_eq_true, if_true, if_false, List.length_map, beq_self_eq_true, uns, h0, h1, h5, h6, la, lss64, q1, q2, i1, load3, c1, conv3_5n hd, i2, st, add64', e4]
  exact ⟨_, rfl, by simp only [upd_at, Nat.reduceEqDiff, reduceIte, h0], by simp only [upd_at, Nat.reduceEqDiff, reduceIte, h1], by simp only [upd_at, Nat.reduceEqDiff, reduceIte, h5], by simp only [upd_at, Nat.reduceEqDiff, reduceIte]⟩
theorem rbw_ex (h0 : F 0 = a) (h1 : F 1 = .int .i64 64) (h6 : F 6 = .int .i64 (i : Nat)) (hN : NumA M a (dig x)) (hi : (dig x).length ≤ i) :
    ∃ F', acodeN E self nf lprby_0 (lst F 30) M = some (.exit 0, lst F' 30, M) ∧ F' 5 = F 5 := by
  have q1 : decide (((i : Nat) : Int) < (((dig x).length : Nat) : Int)) = false := decide_eq_false (by omega)
  have la := hN.1
  by_cases h9 : i < 64
  · have q2 : decide (((i : Nat) : Int) < 64) = true := decide_eq_true (by omega)
    simp only [lprby_0_eq, orby_0, orby_1, orby_2, orby_3, orby_4, orby_5, orby_6, grby_3_3, agd_none, gdAt, gdV_bool, gdV_undef, List.append_eq, List.cons_append, List.nil_append, apure_call1, apure_call2, apure_call3, bft, btf, acodeN, List.getElem?_toArray, List.getElem?_cons_zero, List.getElem?_cons_succ, aopsN, adrawT, cls, astep, aop, afloat, ev, nth_lst, get_lst, aput, setAt_lst, upd_at, init_zero, init_succ, init_nil, Nat.reduceLT, Nat.reduceEqDiff, reduceIte, len_N, abuiltin_app, Option.map_some, Option.map_none, orElse_some, apure_add, apure_eqlV, eqlVal_str, eqlVal_bool, eqlVal_ptr, eqlVal_slice, eqlVal_wide, eqlVal_int, allT, ↓aop_eqlV, apure_neq, List.map_cons, List.map_nil, List.all_cons, List.all_nil, lit2, lit1, lit0, List.isEmpty_nil, bls, Bool.false_eq_true, if_true, if_false, List.length_map, beq_self_eq_true, uns, h0, h1, h6, la, lss64, q1, q2]
    exact ⟨_, rfl, by simp only [upd_at, Nat.reduceEqDiff, reduceIte]⟩
  · have q2 : decide (((i : Nat) : Int) < 64) = false := decide_eq_false (by omega)
    simp only [lprby_0_eq, orby_0, orby_1, orby_2, orby_3, orby_4, orby_5, orby_6, grby_3_3, agd_none, gdAt, gdV_bool, gdV_undef, List.append_eq, List.cons_append, List.nil_append, apure_call1, apure_call2, apure_call3, bft, btf, acodeN, List.getElem?_toArray, List.getElem?_cons_zero, List.getElem?_cons_succ, aopsN, adrawT, cls, astep, aop, afloat, ev, nth_lst, get_lst, aput, setAt_lst, upd_at, init_zero, init_succ, init_nil, Nat.reduceLT, Nat.reduceEqDiff, reduceIte, len_N, abuiltin_app, Option.map_some, Option.map_none, orElse_some, apure_add, apure_eqlV, eqlVal_str, eqlVal_bool, eqlVal_ptr, eqlVal_slice, eqlVal_wide, eqlVal_int, allT, ↓aop_eqlV, apure_neq, List.map_cons, List.map_nil, List.all_cons, List.all_nil, lit2, lit1, lit0, List.isEmpty_nil, bls, Bool.false_eq_true, if_true, if_false, List.length_map, beq_self_eq_true, uns, h0, h1, h6, la, lss64, q1, q2]
    exact ⟨_, rfl, by simp only [upd_at, Nat.reduceEqDiff, reduceIte]⟩
theorem rbw_body (hN : NumA m a (dig x)) (hx : x < W8) (hnf : 1000 < nf) : ∃ m', abody E self nf 13 [a, .int .i64 64] m = some (.string (byS (wN x)), m') := by
  rw [abody_eqF (by kernel_rfl) Tryd.func13 bodyrby (by kernel_rfl) (Nat.le_of_ble_eq_true rfl)]
  rw [show Tryd.f13.ntmps = 30 from rfl]
  have hlen : (dig x).length ≤ 64 := dig_len_le (by rw [← W8_256]; exact hx)
  have b1 := make35w m
  obtain ⟨N, hN9⟩ : ∃ N, N = m ++ [Blk.row false 5 (rowK .u8 64 fun _ => 0)] := ⟨_, rfl⟩
  rw [← hN9] at b1
  have gq : N[m.length]? = some (.row false 5 (rowK .u8 64 fun _ => 0)) := by rw [hN9]; simp
  have gk : ∀ k, k < m.length → N[k]? = m[k]? := fun k hk => by rw [hN9, List.getElem?_append_left hk]
  have hl := aloop_inv (body := acodeN E self nf lprby_0) (N := 64)
    (I := fun i T M => ∃ G, T = lst G 30 ∧ G 0 = a ∧ G 1 = .int .i64 64 ∧ G 5 = .slice (some ⟨m.length, 0, none⟩) 64 64 ∧ G 6 = .int .i64 (i : Nat) ∧ i ≤ (dig x).length ∧ M[m.length]? = some (.row false 5 (rowK .u8 64 fun j => if j < i then x / 256 ^ j % 256 else 0)) ∧ (∀ k, k < m.length → M[k]? = m[k]?))
    (Q := fun e T M => e = .exit 0 ∧ ∃ G, T = lst G 30 ∧ G 5 = .slice (some ⟨m.length, 0, none⟩) 64 64 ∧ M[m.length]? = some (.row false 5 (rowK .u8 64 (byW (wN x))))) (fun i T M hi hI => by
      obtain ⟨G, rfl, g0, g1, g5, g6, gi, gr, gk9⟩ := hI
      have hNM : NumA M a (dig x) := hN.keep gk9
      by_cases hlt : i < (dig x).length
      · left
        obtain ⟨F', hr, f0, f1, f5, f6⟩ := rbw_it (self := self) (nf := nf) g0 g1 g5 g6 hNM hlt (by omega) gr
        refine ⟨_, _, hr, by omega, F', rfl, f0.trans g0, f1.trans g1, f5.trans g5, f6, hlt, ?_, fun k hk => by rw [List.getElem?_set_ne (by omega), gk9 k hk]⟩
        rw [List.getElem?_set_self (lt_of_at gr)]
        refine congrArg (fun l => some (Blk.row false 5 l)) (rowK_ext fun j _ => ?_)
        by_cases hj : j = i
        · subst hj
          rw [if_pos rfl, if_pos (by omega)]
        · rw [if_neg hj]
          by_cases hj2 : j < i
          · rw [if_pos hj2, if_pos (by omega)]
          · rw [if_neg hj2, if_neg (by omega)]
      · right
        obtain ⟨F', hr, f5⟩ := rbw_ex (self := self) (nf := nf) (i := i) g0 g1 g6 hNM (by omega)
        refine ⟨_, _, _, hr, by simp, rfl, F', rfl, f5.trans g5, ?_⟩
        rw [gr]
        refine congrArg (fun l => some (Blk.row false 5 l)) (rowK_ext fun j _ => ?_)
        rw [byW_wN]
        by_cases hj : j < i
        · rw [if_pos hj]
        · rw [if_neg hj, dig_past (by omega)])
  obtain ⟨e, T', M1, hr, rfl, G, rfl, g5, kq⟩ := hl 64 0 nf (lst (upd (upd (upd (upd (upd (init [a, .int .i64 64]) 4 (.string ⟨#[]⟩)) 7 (.int .i64 64)) 8 (.slice (some ⟨m.length, 0, none⟩) 64 64)) 5 (.slice (some ⟨m.length, 0, none⟩) 64 64)) 6 (.int .i64 0)) 30) N (by omega) (by omega) ⟨_, rfl, rfl, rfl, rfl, rfl, by omega, by rw [gq]; simp, gk⟩
  have hc := conv35_str (n := 64) (c := 64) (l := byL (wN x) 64) kq (by rw [List.take_of_length_le (by rw [rowK_length]; omega), rowK, byL, List.map_map]; rfl) (by rw [rowK_length]; omega)
  rw [show bytesOfL ((byL (wN x) 64).map fun n => UInt8.ofNat n.toNat) = byS (wN x) from rfl] at hc
  generalize byS (wN x) = Y at *
  clear kq gk gq hN9 hl
  simp only [orby_0, orby_1, orby_2, orby_3, orby_4, orby_5, orby_6, grby_3_3, agd_none, gdAt, gdV_bool, gdV_undef, List.append_eq, List.cons_append, List.nil_append, apure_call1, apure_call2, apure_call3, bft, btf, acodeN, List.getElem?_toArray, List.getElem?_cons_zero, List.getElem?_cons_succ, aopsN, adrawT, cls, astep, aop, afloat, ev, nth_lst, get_lst, aput, setAt_lst, upd_at, init_zero, init_succ, init_nil, Nat.reduceLT, Nat.reduceEqDiff, reduceIte, len_N, abuiltin_app, Option.map_some, Option.map_none, orElse_some, apure_add, apure_eqlV, eqlVal_str, eqlVal_bool, eqlVal_ptr, eqlVal_slice, eqlVal_wide, eqlVal_int, allT, ↓aop_eqlV, apure_neq, List.map_cons, List.map_nil, List.all_cons, List.all_nil, lit2, lit1, lit0, List.isEmpty_nil, bls, Bool.false_eq_true, if_true, if_false, List.length_map, beq_self_eq_true, uns, b1, hr, g5, aconv35, apure_convert, isAddr, hc, finish, ares, aresL, ares1, Tryd.f13]
  exact ⟨_, rfl⟩
end
def CByR (self : Self) : Prop := ∀ (m : Mem) (a : Value) (x : Nat), NumA m a (dig x) → x < W8 → ainv E self 13 [a, .int .i64 64] m = some (.string (byS (wN x)), m)
theorem cbyR {R : Nat → Self} {K : List Fact} (hR : Runs R K) {n : Nat} (hK : hasF K 13 = false) (hn : 1000 ≤ n) : CByR (R (n + 1)) := by
  intro m a x ha hx
  by_cases hl : ([a, .int .i64 64].all lit2) = true
  · have hl9 : lit2 a = true := by
      simp only [List.all_cons, List.all_nil, Bool.and_true, Bool.and_eq_true] at hl
      exact hl.1
    obtain ⟨rfl, h1⟩ := ha.lit hl9
    obtain ⟨m', hb⟩ := rbw_body (self := R n) (nf := n + 1) (m := (m.take E.G).map onlyTab) (a := .slice none 0 0) (x := x) (by rw [h1]; exact NumA.nil _) hx (by omega)
    exact ainv_lit hl (by kernel_rfl) (hR.b hK hb) rfl
  · obtain ⟨m', hb⟩ := rbw_body (self := R n) (nf := n + 1) ha.sealed hx (by omega)
    exact ainv_look (by simpa using hl) (by kernel_rfl) (hR.b hK hb) rfl
end Go.Am.Seat
namespace Go.Am.Seat
open Go.Proofs Go.Am Go.Am.Num Go.Am.Kn
theorem dgS_fin : ∀ i : Fin 10, dgS.extract i.val (i.val + 1) = bytesOfL [UInt8.ofNat (48 + i.val)] := by
  intro i
  rcases i with ⟨i, hi⟩
  match i, hi with
  | 0, _ => rfl
  | 1, _ => rfl
  | 2, _ => rfl
  | 3, _ => rfl
  | 4, _ => rfl
  | 5, _ => rfl
  | 6, _ => rfl
  | 7, _ => rfl
  | 8, _ => rfl
  | 9, _ => rfl
theorem smS_ext : ∀ p : Fin 100, (smS.data.toList.drop (p.val * 2)).take 2 = [UInt8.ofNat (48 + p.val / 10), UInt8.ofNat (48 + p.val % 10)] := by decide +kernel
theorem smS_hi : ∀ p : Fin 100, smS.data.toList[p.val * 2]? = some (UInt8.ofNat (48 + p.val / 10)) := by decide +kernel
theorem smS_lo : ∀ p : Fin 100, smS.data.toList[p.val * 2 + 1]? = some (UInt8.ofNat (48 + p.val % 10)) := by decide +kernel
theorem smS_size : smS.size = 200 := by decide +kernel
theorem ofN {n : Nat} (h : n < 256) : (UInt8.ofNat n).toNat = n := by rw [UInt8.toNat_ofNat']; omega
theorem smIx {p : Nat} (h : p < 100) : aindex E.P 9 (.string smS) (.int .u32 ((p * 2 : Nat) : Int)) = some (.int .u8 ((48 + p / 10 : Nat) : Int)) ∧ aindex E.P 9 (.string smS) (.int .u32 ((p * 2 + 1 : Nat) : Int)) = some (.int .u8 ((48 + p % 10 : Nat) : Int)) := by
  have h1 := index9k (kd := .u32) (smS_hi ⟨p, h⟩)
  have h2 := index9k (kd := .u32) (smS_lo ⟨p, h⟩)
  simp only at h1 h2
  rw [ofN (by omega)] at h1
  rw [ofN (by omega)] at h2
  exact ⟨h1, h2⟩
theorem decs_one {i : Nat} (h : i < 10) : decs i = [48 + i] := by
  unfold decs
  rw [Lib.nDigits_small h, padN_succ]
  simp [padN, dgN, Nat.mod_eq_of_lt h]
theorem decs_two {i : Nat} (h1 : ¬ i < 10) (h2 : i < 100) : decs i = [48 + i / 10, 48 + i % 10] := by
  unfold decs
  rw [Lib.nDigits_big h1, Lib.nDigits_small (by omega), padN_succ, padN_succ]
  simp [padN, dgN]
  omega
theorem bytes_nats (l : List UInt8) : natsOf (bytesOfL l) = l.map (·.toNat) := rfl
theorem sm_one {i : Nat} (h : i < 10) : ∃ t, sliceS dgS ((i : Nat) : Int) ((i + 1 : Nat) : Int) = some (.string t) ∧ natsOf t = decs i := by
  refine ⟨dgS.extract i (i + 1), ?_, ?_⟩
  · unfold sliceS
    rw [if_pos ⟨by omega, by rw [show dgS.size = 36 by decide +kernel]; omega⟩, if_pos ⟨by omega, by omega⟩, Int.toNat_natCast, Int.toNat_natCast]
  · rw [dgS_fin ⟨i, h⟩, bytes_nats, decs_one h]
    simp only [List.map_cons, List.map_nil]
    rw [ofN (by omega)]
theorem ext_listL (l : List UInt8) (a b : Nat) : ((⟨l.toArray⟩ : ByteArray).extract a b).data.toList = (l.drop a).take (b - a) := by
  rw [ByteArray.data_extract, Array.toList_extract]
theorem sm_two {i : Nat} (h1 : ¬ i < 10) (h2 : i < 100) : ∃ t, sliceS smS ((i * 2 : Nat) : Int) ((i * 2 + 2 : Nat) : Int) = some (.string t) ∧ natsOf t = decs i := by
  refine ⟨smS.extract (i * 2) (i * 2 + 2), ?_, ?_⟩
  · unfold sliceS
    rw [smS_size, if_pos ⟨by omega, by omega⟩, if_pos ⟨by omega, by omega⟩, Int.toNat_natCast, Int.toNat_natCast]
  · unfold natsOf
    have e : (smS.extract (i * 2) (i * 2 + 2)).data.toList = (smS.data.toList.drop (i * 2)).take (i * 2 + 2 - i * 2) := ext_listL smS.data.toList _ _
    rw [e, Nat.add_sub_cancel_left, smS_ext ⟨i, h2⟩, decs_two h1 h2]
    simp only [List.map_cons, List.map_nil]
    rw [ofN (by omega), ofN (by omega)]
theorem mulx2 {n : Nat} (h : n < 1000000) : abin .mul .i64 ((n : Nat) : Int) .i64 2 = some (.int .i64 ((n * 2 : Nat) : Int)) := by
  rw [mul64', wrap_i64 (by omega) (by omega), Int.natCast_mul]
  try rfl
section
variable {self : Self} {nf : Nat} {m M : Mem} {F : Nat → Value} {i q n u : Nat} {v : Nat → Nat} {b : Bool}
theorem sml_body (h : i < 100) : ∃ t, natsOf t = decs i ∧ abody E self nf 39 [.int .i64 ((i : Nat) : Int)] m = some (.string t, m) := by
  rw [abody_eqF (by kernel_rfl) Tryd.func39 bodysml (by kernel_rfl) (Nat.le_of_ble_eq_true rfl)]
  rw [show Tryd.f39.ntmps = 15 from rfl]
  by_cases h1 : i < 10
  · obtain ⟨t, e1, e2⟩ := sm_one h1
    refine ⟨t, e2, ?_⟩
    have q1 : decide (((i : Nat) : Int) < 10) = true := decide_eq_true (by omega)
    have e3 := w1 (i := i) (by omega)
    simp only [osml_0, osml_1, osml_2, osml_3, agd_none, gdAt, gdV_bool, gdV_undef, List.append_eq, List.cons_append, List.nil_append, apure_call1, apure_call2, apure_call3, bft, btf, acodeN, List.getElem?_toArray, List.getElem?_cons_zero, List.getElem?_cons_succ, aopsN, adrawT, cls, astep, aop, afloat, ev, nth_lst, get_lst, aput, setAt_lst, upd_at, init_zero, init_succ, init_nil, Nat.reduceLT, Nat.reduceEqDiff, reduceIte, abuiltin, alen, Option.map_some, Option.map_none, orElse_some, apure_add, apure_eqlV, eqlVal_str, eqlVal_bool, eqlVal_ptr, eqlVal_slice, eqlVal_wide, eqlVal_int, allT, ↓aop_eqlV, apure_neq, List.map_cons, List.map_nil, List.all_cons, List.all_nil, lit2, lit1, lit0, List.isEmpty_nil, bls, Bool.false_eq_true, if_true, if_false, List.length_map, beq_self_eq_true, uns, lss64, q1, add64', e3, apure_slice2 und9, e1, orElse_some, finish, ares, aresL, ares1, Tryd.f39]
  · obtain ⟨t, e1, e2⟩ := sm_two h1 h
    refine ⟨t, e2, ?_⟩
    have q1 : decide (((i : Nat) : Int) < 10) = false := decide_eq_false (by omega)
    have e3 := mulx2 (n := i) (by omega)
    have e4 : wrapF .i64 (((i * 2 : Nat) : Int) + 2) = ((i * 2 + 2 : Nat) : Int) := by rw [wrap_i64 (by omega) (by omega)]; omega
    simp only [osml_0, osml_1, osml_2, osml_3, agd_none, gdAt, gdV_bool, gdV_undef, List.append_eq, List.cons_append, List.nil_append, apure_call1, apure_call2, apure_call3, bft, btf, acodeN, List.getElem?_toArray, List.getElem?_cons_zero, List.getElem?_cons_succ, aopsN, adrawT, cls, astep, aop, afloat, ev, nth_lst, get_lst, aput, setAt_lst, upd_at, init_zero, init_succ, init_nil, Nat.reduceLT, Nat.reduceEqDiff, reduceIte, abuiltin, alen, Option.map_some, Option.map_none, orElse_some, apure_add, apure_eqlV, eqlVal_str, eqlVal_bool, eqlVal_ptr, eqlVal_slice, eqlVal_wide, eqlVal_int, allT, ↓aop_eqlV, apure_neq, List.map_cons, List.map_nil, List.all_cons, List.all_nil, lit2, lit1, lit0, List.isEmpty_nil, bls, Bool.false_eq_true, if_true, if_false, List.length_map, beq_self_eq_true, uns, lss64, q1, add64', e3, e4, apure_slice2 und9, e1, orElse_some, finish, ares, aresL, ares1, Tryd.f39]
theorem bto_body : abody E self nf 48 [.bool b] m = some (.int .i64 (if b then 1 else 0), m) := by
  cases b
  · kernel_rfl
  · kernel_rfl
theorem shr18 (a : Int) : abin .shr .i64 a .u64 18 = some (.int .i64 (a.fdiv 262144)) := by kernel_rfl
theorem lgp_body (h : n ≤ 64) : abody E self nf 47 [.int .i64 ((n : Nat) : Int)] m = some (.int .i64 ((Lib.l10 n : Nat) : Int), m) := by
  rw [abody_eqF (by kernel_rfl) Tryd.func47 bodylgp (by kernel_rfl) (Nat.le_of_ble_eq_true rfl)]
  rw [show Tryd.f47.ntmps = 6 from rfl]
  have e1 : wrapF .i64 (((n : Nat) : Int) * 78913) = ((n * 78913 : Nat) : Int) := by rw [wrap_i64 (by omega) (by omega)]; omega
  have e2 : Int.fdiv (((n * 78913 : Nat) : Int)) 262144 = ((Lib.l10 n : Nat) : Int) := by
    unfold Lib.l10
    rw [Int.fdiv_eq_ediv_of_nonneg _ (by omega)]
    omega
  simp only [olgp_0, olgp_1, agd_none, gdAt, gdV_bool, gdV_undef, List.append_eq, List.cons_append, List.nil_append, apure_call1, apure_call2, apure_call3, bft, btf, acodeN, List.getElem?_toArray, List.getElem?_cons_zero, List.getElem?_cons_succ, aopsN, adrawT, cls, astep, aop, afloat, ev, nth_lst, get_lst, aput, setAt_lst, upd_at, init_zero, init_succ, init_nil, Nat.reduceLT, Nat.reduceEqDiff, reduceIte, abuiltin, alen, Option.map_some, Option.map_none, orElse_some, apure_add, apure_eqlV, eqlVal_str, eqlVal_bool, eqlVal_ptr, eqlVal_slice, eqlVal_wide, eqlVal_int, allT, ↓aop_eqlV, apure_neq, List.map_cons, List.map_nil, List.all_cons, List.all_nil, lit2, lit1, lit0, List.isEmpty_nil, bls, Bool.false_eq_true, if_true, if_false, List.length_map, beq_self_eq_true, uns, mul64', e1, shr18, e2, finish, ares, aresL, ares1, Tryd.f47]
end
theorem lenW_bit {x : Nat} (h : x < 18446744073709551616) (h0 : 0 < x) : lenW x = Lib.bitLen x := by
  obtain ⟨a, b⟩ := lenW_ok h h0
  obtain ⟨c, d, e⟩ := Lib.bitLenAux_bounds 64 x h (by omega)
  change 1 ≤ Lib.bitLen x at c
  change 2 ^ (Lib.bitLen x - 1) ≤ x at d
  change x < 2 ^ Lib.bitLen x at e
  generalize Lib.bitLen x = L at *
  generalize lenW x = N at *
  rcases Nat.lt_trichotomy N L with h1 | h1 | h1
  · have := Nat.pow_le_pow_right (n := 2) (by decide) (show N ≤ L - 1 by omega)
    omega
  · exact h1
  · have := Nat.pow_le_pow_right (n := 2) (by decide) (show L + 1 ≤ N by omega)
    rw [Nat.pow_succ] at this
    omega
def TabT (m : Mem) : Prop := m[2]? = some (.tab 80 (int64s pows))
theorem TabT.only {m : Mem} (h : TabT m) : TabT ((m.take E.G).map onlyTab) := by
  unfold TabT at *
  have hG : E.G = 6 := rfl
  rw [List.getElem?_map, List.getElem?_take_of_lt (by rw [hG]; decide), h]
  rfl
theorem TabT.app {m x : Mem} (h : TabT m) : TabT (m ++ x) := by
  unfold TabT at *
  rw [List.getElem?_append_left (List.getElem?_eq_some_iff.1 h).1]
  exact h
theorem TabT.sealed {m : Mem} (h : TabT m) : TabT (m.map Am.sealed) := by
  unfold TabT at *
  rw [List.getElem?_map, h]
  rfl
theorem TabT.keep {m m' : Mem} (h : TabT m) (hk : Kept m m') : TabT m' := by
  unfold TabT at *
  rw [hk.2 _ (lt_of_at h)]
  exact h
theorem tabT_mem1 (X : Mem) : TabT (mem1 ++ X) := rfl
def AnsP (self : Self) (f : FuncId) (args : List Value) (v : Value) : Prop := ∀ M : Mem, TabT M → ainv E self f args M = some (v, M)
theorem ans_ofP {self : Self} {f : FuncId} {args : List Value} {v : Value} (ha : args.all lit2 = true) (hf : E.fast f = none) (hv : lit2 v = true) (h : ∀ m, TabT m → ∃ m', self f args m = some (v, m')) : AnsP self f args v := by
  intro M hM
  obtain ⟨m', h'⟩ := h ((M.take E.G).map onlyTab) hM.only
  exact ainv_lit ha hf h' hv
end Go.Am.Seat
namespace Go.Am.Seat
open Go.Proofs Go.Am Go.Am.Num Go.Am.Kn
theorem aU24 : ArrT 70 24 5 .u8 := ⟨Tryd.underlying70, und5, info_of (by kernel_rfl), info_of (by kernel_rfl)⟩
theorem rem32 {a c : Nat} (hc : c + 1 < 4294967296) : abin .rem .u32 ((a : Nat) : Int) .u32 ((c + 1 : Nat) : Int) = some (.int .u32 ((a % (c + 1) : Nat) : Int)) := by
  have h : ∀ k : Int, abin .rem .u32 k .u32 ((c + 1 : Nat) : Int) = some (.int .u32 (k.tmod ((c + 1 : Nat) : Int))) := fun k => by kernel_rfl
  rw [h, Int.tmod_eq_emod_of_nonneg (by omega), ← Int.natCast_emod]
theorem quo32 {a c : Nat} (ha : a < 4294967296) : abin .quo .u32 ((a : Nat) : Int) .u32 ((c + 1 : Nat) : Int) = some (.int .u32 ((a / (c + 1) : Nat) : Int)) := by
  have h : ∀ k : Int, abin .quo .u32 k .u32 ((c + 1 : Nat) : Int) = some (.int .u32 (wrapF .u32 (k.tdiv ((c + 1 : Nat) : Int)))) := fun k => by kernel_rfl
  have e : wrapF .u32 (((a / (c + 1) : Nat) : Int)) = ((a / (c + 1) : Nat) : Int) := by
    have := Nat.lt_of_le_of_lt (Nat.div_le_self a (c + 1)) ha
    generalize a / (c + 1) = Q at *
    show ((Q : Nat) : Int) % 4294967296 = _
    omega
  rw [h, Int.tdiv_eq_ediv_of_nonneg (by omega), ← Int.natCast_ediv, e]
theorem mul32 {a : Nat} (ha : a < 1000000000) : abin .mul .u32 ((a : Nat) : Int) .u32 2 = some (.int .u32 ((a * 2 : Nat) : Int)) := by
  have h : ∀ k : Int, abin .mul .u32 k .u32 2 = some (.int .u32 (wrapF .u32 (k * 2))) := fun k => by kernel_rfl
  have e : wrapF .u32 (((a : Nat) : Int) * 2) = ((a * 2 : Nat) : Int) := by
    show (((a : Nat) : Int) * 2) % 4294967296 = _
    omega
  rw [h, e]
theorem add32 {a : Nat} (ha : a < 1000000000) : abin .add .u32 ((a : Nat) : Int) .u32 1 = some (.int .u32 ((a + 1 : Nat) : Int)) := by
  have h : ∀ k : Int, abin .add .u32 k .u32 1 = some (.int .u32 (wrapF .u32 (k + 1))) := fun k => by kernel_rfl
  have e : wrapF .u32 (((a : Nat) : Int) + 1) = ((a + 1 : Nat) : Int) := by
    show (((a : Nat) : Int) + 1) % 4294967296 = _
    omega
  rw [h, e]
theorem add48 {a : Nat} (ha : a < 100) : abin .add .u32 48 .u32 ((a : Nat) : Int) = some (.int .u32 ((48 + a : Nat) : Int)) := by
  have h : ∀ k : Int, abin .add .u32 48 .u32 k = some (.int .u32 (wrapF .u32 (48 + k))) := fun k => by kernel_rfl
  have e : wrapF .u32 (48 + ((a : Nat) : Int)) = ((48 + a : Nat) : Int) := by
    show (48 + ((a : Nat) : Int)) % 4294967296 = _
    omega
  rw [h, e]
theorem cv64_32 {a : Nat} (ha : a < 4294967296) : aconv E.P 22 74 (.int .u64 ((a : Nat) : Int)) = some (.int .u32 ((a : Nat) : Int)) := by
  have h : ∀ k : Int, aconv E.P 22 74 (.int .u64 k) = some (.int .u32 (k % 4294967296)) := fun k => by kernel_rfl
  rw [h]
  congr 2
  omega
theorem cv32_8 {a : Nat} (ha : a < 256) : aconv E.P 74 5 (.int .u32 ((a : Nat) : Int)) = some (.int .u8 ((a : Nat) : Int)) := by
  have h : ∀ k : Int, aconv E.P 74 5 (.int .u32 k) = some (.int .u8 (k % 256)) := fun k => by kernel_rfl
  rw [h]
  congr 2
  omega
theorem subI (a b : Nat) (h : b ≤ a) (ha : a < 1000000) : wrapF .i64 (((a : Nat) : Int) - ((b : Nat) : Int)) = ((a - b : Nat) : Int) := by rw [wrap_i64 (by omega) (by omega)]; omega
section
variable {self : Self} {nf : Nat} {M : Mem} {F : Nat → Value} {q n k p : Nat} {u : Nat → Nat}
theorem fbt_7 (h0 : F 0 = .slice (some ⟨q, 0, none⟩) n 24) (h4 : F 4 = .int .i64 ((k + 2 : Nat) : Int)) (hx : F 9 = .int .u32 ((p * 2 : Nat) : Int)) (hp : p < 100) (hk : k + 2 ≤ n) (hn : n ≤ 24) (hq : M[q]? = some (.row false 70 (rowK .u8 24 u))) :
    ∃ F', acodeN E self nf (.region 7 rfbt_7 true) (lst F 167) M = some (.normal, lst F' 167, M.set q (.row false 70 (rowK .u8 24 (putW (putW u (k + 1) (48 + p % 10)) k (48 + p / 10))))) ∧ ∀ j, j < 17 → F' j = F j := by
  have e1 := subI (k + 2) 1 (by omega) (by omega)
  have e2 := subI (k + 2) 2 (by omega) (by omega)
  rw [show ((1 : Nat) : Int) = 1 from rfl, show k + 2 - 1 = k + 1 by omega] at e1
  rw [show ((2 : Nat) : Int) = 2 from rfl, show k + 2 - 2 = k by omega] at e2
  have e3 := add32 (a := p * 2) (by omega)
  obtain ⟨s1, s2⟩ := smIx hp
  have i1 := ix35w (b := q) (L := n) (c := 24) (j := k + 1) (by omega)
  have i2 := ix35w (b := q) (L := n) (c := 24) (j := k) (by omega)
  have st1 := aU24.storeE (x := 48 + p % 10) hq (j := k + 1) (by omega)
  have hq2 : (M.set q (.row false 70 (rowK .u8 24 (putW u (k + 1) (48 + p % 10)))))[q]? = some (.row false 70 (rowK .u8 24 (putW u (k + 1) (48 + p % 10)))) := by rw [List.getElem?_set_self (lt_of_at hq)]
  have st2 := aU24.storeE (x := 48 + p / 10) hq2 (j := k) (by omega)
  rw [List.set_set] at st2
  change astore E.P _ _ _ M = some (M.set q (.row false 70 (rowK .u8 24 (putW u (k + 1) (48 + p % 10))))) at st1
  change astore E.P _ _ _ _ = some (M.set q (.row false 70 (rowK .u8 24 (putW (putW u (k + 1) (48 + p % 10)) k (48 + p / 10))))) at st2
  generalize M.set q (.row false 70 (rowK .u8 24 (putW (putW u (k + 1) (48 + p % 10)) k (48 + p / 10)))) = M2 at *
  generalize M.set q (.row false 70 (rowK .u8 24 (putW u (k + 1) (48 + p % 10)))) = M1 at *
  simp only [↓dfbt_7, ↓sfbt_7, ofbt_7, agd_none, gdAt, gdV_bool, gdV_undef, List.append_eq, List.cons_append, List.nil_append, apure_call1, apure_call2, apure_call3, bft, btf, acodeN, List.getElem?_toArray, List.getElem?_cons_zero, List.getElem?_cons_succ, aopsN, adrawT, cls, astep, aop, afloat, ev, nth_lst, get_lst, aput, setAt_lst, upd_at, init_zero, init_succ, init_nil, Nat.reduceLT, Nat.reduceEqDiff, reduceIte, abuiltin, alen, Option.map_some, Option.map_none, orElse_some, apure_add, apure_eqlV, eqlVal_str, eqlVal_bool, eqlVal_ptr, eqlVal_slice, eqlVal_wide, eqlVal_int, allT, ↓aop_eqlV, apure_neq, List.map_cons, List.map_nil, List.all_cons, List.all_nil, lit2, lit1, lit0, List.isEmpty_nil, bls, Bool.false_eq_true, if_true, if_false, List.length_map, beq_self_eq_true, uns, h0, h4, hx, sub64', e1, e2, e3, s1, s2, i1, i2, st1, st2]
  exact ⟨_, rfl, fun j hj => by repeat rw [upd_ne (by omega)]⟩
theorem fbt_8 (h0 : F 0 = .slice (some ⟨q, 0, none⟩) n 24) (h4 : F 4 = .int .i64 ((k + 4 : Nat) : Int)) (hx : F 8 = .int .u32 ((p * 2 : Nat) : Int)) (hp : p < 100) (hk : k + 4 ≤ n) (hn : n ≤ 24) (hq : M[q]? = some (.row false 70 (rowK .u8 24 u))) :
    ∃ F', acodeN E self nf (.region 8 rfbt_8 true) (lst F 167) M = some (.normal, lst F' 167, M.set q (.row false 70 (rowK .u8 24 (putW (putW u (k + 1) (48 + p % 10)) k (48 + p / 10))))) ∧ ∀ j, j < 17 → F' j = F j := by
  have e1 := subI (k + 4) 3 (by omega) (by omega)
  have e2 := subI (k + 4) 4 (by omega) (by omega)
  rw [show ((3 : Nat) : Int) = 3 from rfl, show k + 4 - 3 = k + 1 by omega] at e1
  rw [show ((4 : Nat) : Int) = 4 from rfl, show k + 4 - 4 = k by omega] at e2
  have e3 := add32 (a := p * 2) (by omega)
  obtain ⟨s1, s2⟩ := smIx hp
  have i1 := ix35w (b := q) (L := n) (c := 24) (j := k + 1) (by omega)
  have i2 := ix35w (b := q) (L := n) (c := 24) (j := k) (by omega)
  have st1 := aU24.storeE (x := 48 + p % 10) hq (j := k + 1) (by omega)
  have hq2 : (M.set q (.row false 70 (rowK .u8 24 (putW u (k + 1) (48 + p % 10)))))[q]? = some (.row false 70 (rowK .u8 24 (putW u (k + 1) (48 + p % 10)))) := by rw [List.getElem?_set_self (lt_of_at hq)]
  have st2 := aU24.storeE (x := 48 + p / 10) hq2 (j := k) (by omega)
  rw [List.set_set] at st2
  change astore E.P _ _ _ M = some (M.set q (.row false 70 (rowK .u8 24 (putW u (k + 1) (48 + p % 10))))) at st1
  change astore E.P _ _ _ _ = some (M.set q (.row false 70 (rowK .u8 24 (putW (putW u (k + 1) (48 + p % 10)) k (48 + p / 10))))) at st2
  generalize M.set q (.row false 70 (rowK .u8 24 (putW (putW u (k + 1) (48 + p % 10)) k (48 + p / 10)))) = M2 at *
  generalize M.set q (.row false 70 (rowK .u8 24 (putW u (k + 1) (48 + p % 10)))) = M1 at *
  simp only [↓dfbt_8, ↓sfbt_8, ofbt_8, agd_none, gdAt, gdV_bool, gdV_undef, List.append_eq, List.cons_append, List.nil_append, apure_call1, apure_call2, apure_call3, bft, btf, acodeN, List.getElem?_toArray, List.getElem?_cons_zero, List.getElem?_cons_succ, aopsN, adrawT, cls, astep, aop, afloat, ev, nth_lst, get_lst, aput, setAt_lst, upd_at, init_zero, init_succ, init_nil, Nat.reduceLT, Nat.reduceEqDiff, reduceIte, abuiltin, alen, Option.map_some, Option.map_none, orElse_some, apure_add, apure_eqlV, eqlVal_str, eqlVal_bool, eqlVal_ptr, eqlVal_slice, eqlVal_wide, eqlVal_int, allT, ↓aop_eqlV, apure_neq, List.map_cons, List.map_nil, List.all_cons, List.all_nil, lit2, lit1, lit0, List.isEmpty_nil, bls, Bool.false_eq_true, if_true, if_false, List.length_map, beq_self_eq_true, uns, h0, h4, hx, sub64', e1, e2, e3, s1, s2, i1, i2, st1, st2]
  exact ⟨_, rfl, fun j hj => by repeat rw [upd_ne (by omega)]⟩
theorem fbt_9 (h0 : F 0 = .slice (some ⟨q, 0, none⟩) n 24) (h4 : F 4 = .int .i64 ((k + 6 : Nat) : Int)) (hx : F 11 = .int .u32 ((p * 2 : Nat) : Int)) (hp : p < 100) (hk : k + 6 ≤ n) (hn : n ≤ 24) (hq : M[q]? = some (.row false 70 (rowK .u8 24 u))) :
    ∃ F', acodeN E self nf (.region 9 rfbt_9 true) (lst F 167) M = some (.normal, lst F' 167, M.set q (.row false 70 (rowK .u8 24 (putW (putW u (k + 1) (48 + p % 10)) k (48 + p / 10))))) ∧ ∀ j, j < 17 → F' j = F j := by
  have e1 := subI (k + 6) 5 (by omega) (by omega)
  have e2 := subI (k + 6) 6 (by omega) (by omega)
  rw [show ((5 : Nat) : Int) = 5 from rfl, show k + 6 - 5 = k + 1 by omega] at e1
  rw [show ((6 : Nat) : Int) = 6 from rfl, show k + 6 - 6 = k by omega] at e2
  have e3 := add32 (a := p * 2) (by omega)
  obtain ⟨s1, s2⟩ := smIx hp
  have i1 := ix35w (b := q) (L := n) (c := 24) (j := k + 1) (by omega)
  have i2 := ix35w (b := q) (L := n) (c := 24) (j := k) (by omega)
  have st1 := aU24.storeE (x := 48 + p % 10) hq (j := k + 1) (by omega)
  have hq2 : (M.set q (.row false 70 (rowK .u8 24 (putW u (k + 1) (48 + p % 10)))))[q]? = some (.row false 70 (rowK .u8 24 (putW u (k + 1) (48 + p % 10)))) := by rw [List.getElem?_set_self (lt_of_at hq)]
  have st2 := aU24.storeE (x := 48 + p / 10) hq2 (j := k) (by omega)
  rw [List.set_set] at st2
  change astore E.P _ _ _ M = some (M.set q (.row false 70 (rowK .u8 24 (putW u (k + 1) (48 + p % 10))))) at st1
  change astore E.P _ _ _ _ = some (M.set q (.row false 70 (rowK .u8 24 (putW (putW u (k + 1) (48 + p % 10)) k (48 + p / 10))))) at st2
  generalize M.set q (.row false 70 (rowK .u8 24 (putW (putW u (k + 1) (48 + p % 10)) k (48 + p / 10)))) = M2 at *
  generalize M.set q (.row false 70 (rowK .u8 24 (putW u (k + 1) (48 + p % 10)))) = M1 at *
  simp only [↓dfbt_9, ↓sfbt_9, ofbt_9, agd_none, gdAt, gdV_bool, gdV_undef, List.append_eq, List.cons_append, List.nil_append, apure_call1, apure_call2, apure_call3, bft, btf, acodeN, List.getElem?_toArray, List.getElem?_cons_zero, List.getElem?_cons_succ, aopsN, adrawT, cls, astep, aop, afloat, ev, nth_lst, get_lst, aput, setAt_lst, upd_at, init_zero, init_succ, init_nil, Nat.reduceLT, Nat.reduceEqDiff, reduceIte, abuiltin, alen, Option.map_some, Option.map_none, orElse_some, apure_add, apure_eqlV, eqlVal_str, eqlVal_bool, eqlVal_ptr, eqlVal_slice, eqlVal_wide, eqlVal_int, allT, ↓aop_eqlV, apure_neq, List.map_cons, List.map_nil, List.all_cons, List.all_nil, lit2, lit1, lit0, List.isEmpty_nil, bls, Bool.false_eq_true, if_true, if_false, List.length_map, beq_self_eq_true, uns, h0, h4, hx, sub64', e1, e2, e3, s1, s2, i1, i2, st1, st2]
  exact ⟨_, rfl, fun j hj => by repeat rw [upd_ne (by omega)]⟩
theorem fbt_10 (h0 : F 0 = .slice (some ⟨q, 0, none⟩) n 24) (h4 : F 4 = .int .i64 ((k + 8 : Nat) : Int)) (hx : F 10 = .int .u32 ((p * 2 : Nat) : Int)) (hp : p < 100) (hk : k + 8 ≤ n) (hn : n ≤ 24) (hq : M[q]? = some (.row false 70 (rowK .u8 24 u))) :
    ∃ F', acodeN E self nf (.region 10 rfbt_10 true) (lst F 167) M = some (.normal, lst F' 167, M.set q (.row false 70 (rowK .u8 24 (putW (putW u (k + 1) (48 + p % 10)) k (48 + p / 10))))) ∧ ∀ j, j < 17 → F' j = F j := by
  have e1 := subI (k + 8) 7 (by omega) (by omega)
  have e2 := subI (k + 8) 8 (by omega) (by omega)
  rw [show ((7 : Nat) : Int) = 7 from rfl, show k + 8 - 7 = k + 1 by omega] at e1
  rw [show ((8 : Nat) : Int) = 8 from rfl, show k + 8 - 8 = k by omega] at e2
  have e3 := add32 (a := p * 2) (by omega)
  obtain ⟨s1, s2⟩ := smIx hp
  have i1 := ix35w (b := q) (L := n) (c := 24) (j := k + 1) (by omega)
  have i2 := ix35w (b := q) (L := n) (c := 24) (j := k) (by omega)
  have st1 := aU24.storeE (x := 48 + p % 10) hq (j := k + 1) (by omega)
  have hq2 : (M.set q (.row false 70 (rowK .u8 24 (putW u (k + 1) (48 + p % 10)))))[q]? = some (.row false 70 (rowK .u8 24 (putW u (k + 1) (48 + p % 10)))) := by rw [List.getElem?_set_self (lt_of_at hq)]
  have st2 := aU24.storeE (x := 48 + p / 10) hq2 (j := k) (by omega)
  rw [List.set_set] at st2
  change astore E.P _ _ _ M = some (M.set q (.row false 70 (rowK .u8 24 (putW u (k + 1) (48 + p % 10))))) at st1
  change astore E.P _ _ _ _ = some (M.set q (.row false 70 (rowK .u8 24 (putW (putW u (k + 1) (48 + p % 10)) k (48 + p / 10))))) at st2
  generalize M.set q (.row false 70 (rowK .u8 24 (putW (putW u (k + 1) (48 + p % 10)) k (48 + p / 10)))) = M2 at *
  generalize M.set q (.row false 70 (rowK .u8 24 (putW u (k + 1) (48 + p % 10)))) = M1 at *
  simp only [↓dfbt_10, ↓sfbt_10, ofbt_10, agd_none, gdAt, gdV_bool, gdV_undef, List.append_eq, List.cons_append, List.nil_append, apure_call1, apure_call2, apure_call3, bft, btf, acodeN, List.getElem?_toArray, List.getElem?_cons_zero, List.getElem?_cons_succ, aopsN, adrawT, cls, astep, aop, afloat, ev, nth_lst, get_lst, aput, setAt_lst, upd_at, init_zero, init_succ, init_nil, Nat.reduceLT, Nat.reduceEqDiff, reduceIte, abuiltin, alen, Option.map_some, Option.map_none, orElse_some, apure_add, apure_eqlV, eqlVal_str, eqlVal_bool, eqlVal_ptr, eqlVal_slice, eqlVal_wide, eqlVal_int, allT, ↓aop_eqlV, apure_neq, List.map_cons, List.map_nil, List.all_cons, List.all_nil, lit2, lit1, lit0, List.isEmpty_nil, bls, Bool.false_eq_true, if_true, if_false, List.length_map, beq_self_eq_true, uns, h0, h4, hx, sub64', e1, e2, e3, s1, s2, i1, i2, st1, st2]
  exact ⟨_, rfl, fun j hj => by repeat rw [upd_ne (by omega)]⟩
theorem fbt_17 (h0 : F 0 = .slice (some ⟨q, 0, none⟩) n 24) (h4 : F 4 = .int .i64 ((k + 2 : Nat) : Int)) (hx : F 15 = .int .u32 ((p * 2 : Nat) : Int)) (hp : p < 100) (hk : k + 2 ≤ n) (hn : n ≤ 24) (hq : M[q]? = some (.row false 70 (rowK .u8 24 u))) :
    ∃ F', acodeN E self nf (.region 17 rfbt_17 true) (lst F 167) M = some (.normal, lst F' 167, M.set q (.row false 70 (rowK .u8 24 (putW (putW u (k + 1) (48 + p % 10)) k (48 + p / 10))))) ∧ ∀ j, j < 17 → F' j = F j := by
  have e1 := subI (k + 2) 1 (by omega) (by omega)
  have e2 := subI (k + 2) 2 (by omega) (by omega)
  rw [show ((1 : Nat) : Int) = 1 from rfl, show k + 2 - 1 = k + 1 by omega] at e1
  rw [show ((2 : Nat) : Int) = 2 from rfl, show k + 2 - 2 = k by omega] at e2
  have e3 := add32 (a := p * 2) (by omega)
  obtain ⟨s1, s2⟩ := smIx hp
  have i1 := ix35w (b := q) (L := n) (c := 24) (j := k + 1) (by omega)
  have i2 := ix35w (b := q) (L := n) (c := 24) (j := k) (by omega)
  have st1 := aU24.storeE (x := 48 + p % 10) hq (j := k + 1) (by omega)
  have hq2 : (M.set q (.row false 70 (rowK .u8 24 (putW u (k + 1) (48 + p % 10)))))[q]? = some (.row false 70 (rowK .u8 24 (putW u (k + 1) (48 + p % 10)))) := by rw [List.getElem?_set_self (lt_of_at hq)]
  have st2 := aU24.storeE (x := 48 + p / 10) hq2 (j := k) (by omega)
  rw [List.set_set] at st2
  change astore E.P _ _ _ M = some (M.set q (.row false 70 (rowK .u8 24 (putW u (k + 1) (48 + p % 10))))) at st1
  change astore E.P _ _ _ _ = some (M.set q (.row false 70 (rowK .u8 24 (putW (putW u (k + 1) (48 + p % 10)) k (48 + p / 10))))) at st2
  generalize M.set q (.row false 70 (rowK .u8 24 (putW (putW u (k + 1) (48 + p % 10)) k (48 + p / 10)))) = M2 at *
  generalize M.set q (.row false 70 (rowK .u8 24 (putW u (k + 1) (48 + p % 10)))) = M1 at *
  simp only [↓dfbt_17, ↓sfbt_17, ofbt_17, agd_none, gdAt, gdV_bool, gdV_undef, List.append_eq, List.cons_append, List.nil_append, apure_call1, apure_call2, apure_call3, bft, btf, acodeN, List.getElem?_toArray, List.getElem?_cons_zero, List.getElem?_cons_succ, aopsN, adrawT, cls, astep, aop, afloat, ev, nth_lst, get_lst, aput, setAt_lst, upd_at, init_zero, init_succ, init_nil, Nat.reduceLT, Nat.reduceEqDiff, reduceIte, abuiltin, alen, Option.map_some, Option.map_none, orElse_some, apure_add, apure_eqlV, eqlVal_str, eqlVal_bool, eqlVal_ptr, eqlVal_slice, eqlVal_wide, eqlVal_int, allT, ↓aop_eqlV, apure_neq, List.map_cons, List.map_nil, List.all_cons, List.all_nil, lit2, lit1, lit0, List.isEmpty_nil, bls, Bool.false_eq_true, if_true, if_false, List.length_map, beq_self_eq_true, uns, h0, h4, hx, sub64', e1, e2, e3, s1, s2, i1, i2, st1, st2]
  exact ⟨_, rfl, fun j hj => by repeat rw [upd_ne (by omega)]⟩
theorem fbt_18 (h0 : F 0 = .slice (some ⟨q, 0, none⟩) n 24) (h4 : F 4 = .int .i64 ((k + 4 : Nat) : Int)) (hx : F 14 = .int .u32 ((p * 2 : Nat) : Int)) (hp : p < 100) (hk : k + 4 ≤ n) (hn : n ≤ 24) (hq : M[q]? = some (.row false 70 (rowK .u8 24 u))) :
    ∃ F', acodeN E self nf (.region 18 rfbt_18 true) (lst F 167) M = some (.normal, lst F' 167, M.set q (.row false 70 (rowK .u8 24 (putW (putW u (k + 1) (48 + p % 10)) k (48 + p / 10))))) ∧ ∀ j, j < 17 → F' j = F j := by
  have e1 := subI (k + 4) 3 (by omega) (by omega)
  have e2 := subI (k + 4) 4 (by omega) (by omega)
  rw [show ((3 : Nat) : Int) = 3 from rfl, show k + 4 - 3 = k + 1 by omega] at e1
  rw [show ((4 : Nat) : Int) = 4 from rfl, show k + 4 - 4 = k by omega] at e2
  have e3 := add32 (a := p * 2) (by omega)
  obtain ⟨s1, s2⟩ := smIx hp
  have i1 := ix35w (b := q) (L := n) (c := 24) (j := k + 1) (by omega)
  have i2 := ix35w (b := q) (L := n) (c := 24) (j := k) (by omega)
  have st1 := aU24.storeE (x := 48 + p % 10) hq (j := k + 1) (by omega)
  have hq2 : (M.set q (.row false 70 (rowK .u8 24 (putW u (k + 1) (48 + p % 10)))))[q]? = some (.row false 70 (rowK .u8 24 (putW u (k + 1) (48 + p % 10)))) := by rw [List.getElem?_set_self (lt_of_at hq)]
  have st2 := aU24.storeE (x := 48 + p / 10) hq2 (j := k) (by omega)
  rw [List.set_set] at st2
  change astore E.P _ _ _ M = some (M.set q (.row false 70 (rowK .u8 24 (putW u (k + 1) (48 + p % 10))))) at st1
  change astore E.P _ _ _ _ = some (M.set q (.row false 70 (rowK .u8 24 (putW (putW u (k + 1) (48 + p % 10)) k (48 + p / 10))))) at st2
  generalize M.set q (.row false 70 (rowK .u8 24 (putW (putW u (k + 1) (48 + p % 10)) k (48 + p / 10)))) = M2 at *
  generalize M.set q (.row false 70 (rowK .u8 24 (putW u (k + 1) (48 + p % 10)))) = M1 at *
  simp only [↓dfbt_18, ↓sfbt_18, ofbt_18, agd_none, gdAt, gdV_bool, gdV_undef, List.append_eq, List.cons_append, List.nil_append, apure_call1, apure_call2, apure_call3, bft, btf, acodeN, List.getElem?_toArray, List.getElem?_cons_zero, List.getElem?_cons_succ, aopsN, adrawT, cls, astep, aop, afloat, ev, nth_lst, get_lst, aput, setAt_lst, upd_at, init_zero, init_succ, init_nil, Nat.reduceLT, Nat.reduceEqDiff, reduceIte, abuiltin, alen, Option.map_some, Option.map_none, orElse_some, apure_add, apure_eqlV, eqlVal_str, eqlVal_bool, eqlVal_ptr, eqlVal_slice, eqlVal_wide, eqlVal_int, allT, ↓aop_eqlV, apure_neq, List.map_cons, List.map_nil, List.all_cons, List.all_nil, lit2, lit1, lit0, List.isEmpty_nil, bls, Bool.false_eq_true, if_true, if_false, List.length_map, beq_self_eq_true, uns, h0, h4, hx, sub64', e1, e2, e3, s1, s2, i1, i2, st1, st2]
  exact ⟨_, rfl, fun j hj => by repeat rw [upd_ne (by omega)]⟩
theorem fbt_23 (h0 : F 0 = .slice (some ⟨q, 0, none⟩) n 24) (h4 : F 4 = .int .i64 ((k + 2 : Nat) : Int)) (hx : F 16 = .int .u32 ((p * 2 : Nat) : Int)) (hp : p < 100) (hk : k + 2 ≤ n) (hn : n ≤ 24) (hq : M[q]? = some (.row false 70 (rowK .u8 24 u))) :
    ∃ F', acodeN E self nf (.region 23 rfbt_23 true) (lst F 167) M = some (.normal, lst F' 167, M.set q (.row false 70 (rowK .u8 24 (putW (putW u (k + 1) (48 + p % 10)) k (48 + p / 10))))) ∧ ∀ j, j < 17 → F' j = F j := by
  have e1 := subI (k + 2) 1 (by omega) (by omega)
  have e2 := subI (k + 2) 2 (by omega) (by omega)
  rw [show ((1 : Nat) : Int) = 1 from rfl, show k + 2 - 1 = k + 1 by omega] at e1
  rw [show ((2 : Nat) : Int) = 2 from rfl, show k + 2 - 2 = k by omega] at e2
  have e3 := add32 (a := p * 2) (by omega)
  obtain ⟨s1, s2⟩ := smIx hp
  have i1 := ix35w (b := q) (L := n) (c := 24) (j := k + 1) (by omega)
  have i2 := ix35w (b := q) (L := n) (c := 24) (j := k) (by omega)
  have st1 := aU24.storeE (x := 48 + p % 10) hq (j := k + 1) (by omega)
  have hq2 : (M.set q (.row false 70 (rowK .u8 24 (putW u (k + 1) (48 + p % 10)))))[q]? = some (.row false 70 (rowK .u8 24 (putW u (k + 1) (48 + p % 10)))) := by rw [List.getElem?_set_self (lt_of_at hq)]
  have st2 := aU24.storeE (x := 48 + p / 10) hq2 (j := k) (by omega)
  rw [List.set_set] at st2
  change astore E.P _ _ _ M = some (M.set q (.row false 70 (rowK .u8 24 (putW u (k + 1) (48 + p % 10))))) at st1
  change astore E.P _ _ _ _ = some (M.set q (.row false 70 (rowK .u8 24 (putW (putW u (k + 1) (48 + p % 10)) k (48 + p / 10))))) at st2
  generalize M.set q (.row false 70 (rowK .u8 24 (putW (putW u (k + 1) (48 + p % 10)) k (48 + p / 10)))) = M2 at *
  generalize M.set q (.row false 70 (rowK .u8 24 (putW u (k + 1) (48 + p % 10)))) = M1 at *
  simp only [↓dfbt_23, ↓sfbt_23, ofbt_23, agd_none, gdAt, gdV_bool, gdV_undef, List.append_eq, List.cons_append, List.nil_append, apure_call1, apure_call2, apure_call3, bft, btf, acodeN, List.getElem?_toArray, List.getElem?_cons_zero, List.getElem?_cons_succ, aopsN, adrawT, cls, astep, aop, afloat, ev, nth_lst, get_lst, aput, setAt_lst, upd_at, init_zero, init_succ, init_nil, Nat.reduceLT, Nat.reduceEqDiff, reduceIte, abuiltin, alen, Option.map_some, Option.map_none, orElse_some, apure_add, apure_eqlV, eqlVal_str, eqlVal_bool, eqlVal_ptr, eqlVal_slice, eqlVal_wide, eqlVal_int, allT, ↓aop_eqlV, apure_neq, List.map_cons, List.map_nil, List.all_cons, List.all_nil, lit2, lit1, lit0, List.isEmpty_nil, bls, Bool.false_eq_true, if_true, if_false, List.length_map, beq_self_eq_true, uns, h0, h4, hx, sub64', e1, e2, e3, s1, s2, i1, i2, st1, st2]
  exact ⟨_, rfl, fun j hj => by repeat rw [upd_ne (by omega)]⟩
end
end Go.Am.Seat
