/-
  Texts of my own, put together: E4, E5, E6, E7, E8.
-/
import Derived.Test.YtmgknkjdbpgjmaaGreatDoorGrFieldRoots19
set_option linter.unusedSimpArgs false
set_option linter.unusedVariables false
set_option maxRecDepth 100000
namespace Go.Am.Seat
open Go.Proofs Go.Am Go.Am.Num
set_option maxHeartbeats 4000000
theorem cellS (m : Mem) (b o : Nat) : cellAt (m.map sealed) b o = cellAt m b o := by
  unfold cellAt
  rw [look_sealed]
  cases look m b <;> rfl
theorem cellK {m : Mem} {q : Nat} {ro : Bool} {e : TypeId} {k : IntKind} {n j : Nat} {w : Nat → Nat} (h : m[q]? = some (.row ro e (rowK k n w))) (hj : j < n) : cellAt m q j = some (.int k ((w j : Nat) : Int)) := by
  unfold cellAt
  rw [look_row h]
  exact rowK_get hj
theorem idx87_0 (a b c d : Nat) : aindex E.P 53 (st4 a b c d) (.int .i64 ((0 : Nat) : Int)) = some (.int .u64 ((a : Nat) : Int)) := by kernel_rfl
theorem idx87_1 (a b c d : Nat) : aindex E.P 53 (st4 a b c d) (.int .i64 ((1 : Nat) : Int)) = some (.int .u64 ((b : Nat) : Int)) := by kernel_rfl
theorem idx87_2 (a b c d : Nat) : aindex E.P 53 (st4 a b c d) (.int .i64 ((2 : Nat) : Int)) = some (.int .u64 ((c : Nat) : Int)) := by kernel_rfl
theorem idx87_3 (a b c d : Nat) : aindex E.P 53 (st4 a b c d) (.int .i64 ((3 : Nat) : Int)) = some (.int .u64 ((d : Nat) : Int)) := by kernel_rfl
theorem idx87 {a b c d i : Nat} (w : Nat → Nat) (h0 : w 0 = a) (h1 : w 1 = b) (h2 : w 2 = c) (h3 : w 3 = d) (hi : i < 4) : aindex E.P 53 (st4 a b c d) (.int .i64 (i : Nat)) = some (.int .u64 ((w i : Nat) : Int)) := by
  subst h0 h1 h2 h3
  match i, hi with
  | 0, _ => exact idx87_0 _ _ _ _
  | 1, _ => exact idx87_1 _ _ _ _
  | 2, _ => exact idx87_2 _ _ _ _
  | 3, _ => exact idx87_3 _ _ _ _
theorem wk {i : Nat} (k : Nat) (hi : i < 1000) (hk : k < 1000) : wrapF .i64 (((i : Nat) : Int) + ((k : Nat) : Int)) = ((i + k : Nat) : Int) := by
  rw [wrap_i64 (by omega) (by omega)]; omega
theorem callTm : callableB E.P 46 = true := by kernel_rfl
theorem wrTm : E.wr 46 = false := by kernel_rfl
theorem addr88 : addrT E.P 4 61 = false := by kernel_rfl
theorem callSe : callableB E.P 26 = true := by kernel_rfl
section
variable {self : Self} {nf : Nat} {M : Mem} {F : Nat → Value} {X Y S i p q : Nat}
theorem iterFm (h2 : F 2 = .pointer (some ⟨p, 0, none⟩)) (h5 : F 5 = .pointer (some ⟨q, 0, none⟩)) (h17 : F 17 = st4 (wd 0 Y) (wd 1 Y) (wd 2 Y) (wd 3 Y)) (h18 : F 18 = .int .i64 (i : Nat)) (hi : i < 4)
    (hX : X < 115792089237316195423570985008687907853269984665640564039457584007913129639936) (hS : S < 18446744073709551616 ^ (i + 4))
    (hp : M[p]? = some (.row false 27 (c4 (wd 0 X) (wd 1 X) (wd 2 X) (wd 3 X)))) (hq : M[q]? = some (.row false 60 (rowK .u64 8 fun j => wd j S)))
    (htm : ∀ x0 x1 x2 x3 n a b c d V : Nat, x0 < 18446744073709551616 → x1 < 18446744073709551616 → x2 < 18446744073709551616 → x3 < 18446744073709551616 → n < 18446744073709551616 → a < 18446744073709551616 → b < 18446744073709551616 → c < 18446744073709551616 → d < 18446744073709551616 → V = v4 x0 x1 x2 x3 * n + v4 a b c d →
      Ans self 46 [st4 x0 x1 x2 x3, .int .u64 (n : Nat), .int .u64 (a : Nat), .int .u64 (b : Nat), .int .u64 (c : Nat), .int .u64 (d : Nat)] (tup5 (wd 0 V) (wd 1 V) (wd 2 V) (wd 3 V) (wd 4 V))) :
    ∃ F' M', acodeN E self nf lpfm_0 (lst F 86) M = some (.normal, lst F' 86, M') ∧ F' 2 = F 2 ∧ F' 4 = F 4 ∧ F' 5 = F 5 ∧ F' 17 = F 17 ∧ F' 18 = .int .i64 ((i + 1 : Nat) : Int) ∧
      M'[q]? = some (.row false 60 (rowK .u64 8 fun j => wd j (S + X * wd i Y * 18446744073709551616 ^ i))) ∧ (∀ b, b ≠ q → M'[b]? = M[b]?) := by
  have hlt : decide (((i : Nat) : Int) < 4) = true := decide_eq_true (by omega)
  have e1 : wrapF .i64 (((i : Nat) : Int) + 1) = ((i + 1 : Nat) : Int) := wk 1 (by omega) (by omega)
  have e2 : wrapF .i64 (((i : Nat) : Int) + 2) = ((i + 2 : Nat) : Int) := wk 2 (by omega) (by omega)
  have e3 : wrapF .i64 (((i : Nat) : Int) + 3) = ((i + 3 : Nat) : Int) := wk 3 (by omega) (by omega)
  have e4 : wrapF .i64 (((i : Nat) : Int) + 4) = ((i + 4 : Nat) : Int) := wk 4 (by omega) (by omega)
  have ix := idx87 (i := i) (fun j => wd j Y) rfl rfl rfl rfl hi
  have i0 := a23.ix (p := q) (j := i) (by omega)
  have i1 := a23.ix (p := q) (j := i + 1) (by omega)
  have i2 := a23.ix (p := q) (j := i + 2) (by omega)
  have i3 := a23.ix (p := q) (j := i + 3) (by omega)
  have i4 := a23.ix (p := q) (j := i + 4) (by omega)
  have c0 : cellAt (M.map sealed) q i = some (.int .u64 ((wd i S : Nat) : Int)) := by rw [cellS]; exact cellK hq (by omega)
  have c1 : cellAt (M.map sealed) q (i + 1) = some (.int .u64 ((wd (i + 1) S : Nat) : Int)) := by rw [cellS]; exact cellK hq (by omega)
  have c2 : cellAt (M.map sealed) q (i + 2) = some (.int .u64 ((wd (i + 2) S : Nat) : Int)) := by rw [cellS]; exact cellK hq (by omega)
  have c3 : cellAt (M.map sealed) q (i + 3) = some (.int .u64 ((wd (i + 3) S : Nat) : Int)) := by rw [cellS]; exact cellK hq (by omega)
  have lx : aload E.P 27 (.pointer (some ⟨p, 0, none⟩)) (M.map sealed) = some (st4 (wd 0 X) (wd 1 X) (wd 2 X) (wd 3 X)) := load48 (ro := true) (e := 27) (by rw [List.getElem?_map, hp]; rfl)
  obtain ⟨V, hV⟩ : ∃ V, V = X * wd i Y + S / 18446744073709551616 ^ i := ⟨_, rfl⟩
  have hc := htm (wd 0 X) (wd 1 X) (wd 2 X) (wd 3 X) (wd i Y) (wd i S) (wd (i + 1) S) (wd (i + 2) S) (wd (i + 3) S) V (wd_lt _ _) (wd_lt _ _) (wd_lt _ _) (wd_lt _ _) (wd_lt _ _) (wd_lt _ _) (wd_lt _ _) (wd_lt _ _) (wd_lt _ _) (by rw [v4_wd hX, v4_at hS]; exact hV)
  unfold Ans at hc
  have hro := round_ok hX (wd_lt i Y) hS hV rfl
  -- the stores
  have s0 := a23.storeE (x := wd 0 V) hq (j := i) (by omega)
  obtain ⟨M1, hM1⟩ : ∃ M1, M1 = M.set q (.row false 60 (rowK .u64 8 fun j => if j = i then wd 0 V else wd j S)) := ⟨_, rfl⟩
  rw [← hM1] at s0
  have g1 : M1[q]? = some (.row false 60 (rowK .u64 8 fun j => if j = i then wd 0 V else wd j S)) := by rw [hM1, List.getElem?_set_self (lt_of_at hq)]
  have s1 := a23.storeE (x := wd 1 V) g1 (j := i + 1) (by omega)
  obtain ⟨M2, hM2⟩ : ∃ M2, M2 = M1.set q (.row false 60 (rowK .u64 8 fun j => if j = i + 1 then wd 1 V else if j = i then wd 0 V else wd j S)) := ⟨_, rfl⟩
  rw [← hM2] at s1
  have g2 : M2[q]? = some (.row false 60 (rowK .u64 8 fun j => if j = i + 1 then wd 1 V else if j = i then wd 0 V else wd j S)) := by rw [hM2, List.getElem?_set_self (lt_of_at g1)]
  have s2 := a23.storeE (x := wd 2 V) g2 (j := i + 2) (by omega)
  obtain ⟨M3, hM3⟩ : ∃ M3, M3 = M2.set q (.row false 60 (rowK .u64 8 fun j => if j = i + 2 then wd 2 V else if j = i + 1 then wd 1 V else if j = i then wd 0 V else wd j S)) := ⟨_, rfl⟩
  rw [← hM3] at s2
  have g3 : M3[q]? = some (.row false 60 (rowK .u64 8 fun j => if j = i + 2 then wd 2 V else if j = i + 1 then wd 1 V else if j = i then wd 0 V else wd j S)) := by rw [hM3, List.getElem?_set_self (lt_of_at g2)]
  have s3 := a23.storeE (x := wd 3 V) g3 (j := i + 3) (by omega)
  obtain ⟨M4, hM4⟩ : ∃ M4, M4 = M3.set q (.row false 60 (rowK .u64 8 fun j => if j = i + 3 then wd 3 V else if j = i + 2 then wd 2 V else if j = i + 1 then wd 1 V else if j = i then wd 0 V else wd j S)) := ⟨_, rfl⟩
  rw [← hM4] at s3
  have g4 : M4[q]? = some (.row false 60 (rowK .u64 8 fun j => if j = i + 3 then wd 3 V else if j = i + 2 then wd 2 V else if j = i + 1 then wd 1 V else if j = i then wd 0 V else wd j S)) := by rw [hM4, List.getElem?_set_self (lt_of_at g3)]
  have s4 := a23.storeE (x := wd 4 V) g4 (j := i + 4) (by omega)
  obtain ⟨M5, hM5⟩ : ∃ M5, M5 = M4.set q (.row false 60 (rowK .u64 8 fun j => if j = i + 4 then wd 4 V else if j = i + 3 then wd 3 V else if j = i + 2 then wd 2 V else if j = i + 1 then wd 1 V else if j = i then wd 0 V else wd j S)) := ⟨_, rfl⟩
  rw [← hM5] at s4
  have g5 : M5[q]? = some (.row false 60 (rowK .u64 8 fun j => wd j (S + X * wd i Y * 18446744073709551616 ^ i))) := by
    rw [hM5, List.getElem?_set_self (lt_of_at g4)]
    exact congrArg (fun l => some (Blk.row false 60 l)) (rowK_ext fun j _ => hro j)
  have hoth : ∀ b, b ≠ q → M5[b]? = M[b]? := fun b hb => by
    rw [hM5, List.getElem?_set_ne (fun e => hb e.symm), hM4, List.getElem?_set_ne (fun e => hb e.symm), hM3, List.getElem?_set_ne (fun e => hb e.symm), hM2, List.getElem?_set_ne (fun e => hb e.symm), hM1, List.getElem?_set_ne (fun e => hb e.symm)]
  clear hro hM1 hM2 hM3 hM4 hM5 g1 g2 g3 g4 hV htm
  generalize wd 0 V = V0 at *
  generalize wd 1 V = V1 at *
  generalize wd 2 V = V2 at *
  generalize wd 3 V = V3 at *
  generalize wd 4 V = V4 at *
  generalize wd i Y = yi at *
  generalize wd i S = si at *
  generalize wd (i + 1) S = si1 at *
  generalize wd (i + 2) S = si2 at *
  generalize wd (i + 3) S = si3 at *
  generalize st4 (wd 0 Y) (wd 1 Y) (wd 2 Y) (wd 3 Y) = vy at *
  simp only [lpfm_0_eq, ↓dfm_5, ↓sfm_5, efm_0, efm_1, efm_2, efm_3, efm_4, efm_5, efm_6, efm_7, efm_8, lfm_0, lfm_1, lfm_2, lfm_3, lfm_4, lfm_5, lfm_6, lfm_7, lfm_8, agd_none, gdAt, gdV_bool, gdV_undef, Tryz.f22, List.append_eq, List.cons_append, List.nil_append, apure_call1, apure_call2, apure_call3, bft, btf, acodeN, List.getElem?_toArray, List.getElem?_cons_zero, List.getElem?_cons_succ, aopsN, adrawT, cls, astep, aop, afloat, ev, nth_lst, get_lst, aput, setAt_lst, upd_at, init_zero, init_succ, init_nil, Nat.reduceLT, Nat.reduceEqDiff, reduceIte, abuiltin, alen, Option.map_some, Option.map_none, orElse_some, apure_add, apure_eqlV, eqlVal_str, eqlVal_bool, eqlVal_ptr, eqlVal_slice, eqlVal_wide, eqlVal_int, allT, ↓aop_eqlV, apure_neq, List.map_cons, List.map_nil, List.all_cons, List.all_nil, lit2, lit1, lit0, List.isEmpty_nil, bls, Bool.false_eq_true, if_true, if_false, List.length_map, beq_self_eq_true, uns, h2, h5, h17, h18, lss64, hlt, ix, add64', e1, e2, e3, e4, lx, i0, i1, i2, i3, i4, a23.loadE, c0, c1, c2, c3, callTm, wrTm, addr88, hc, ex50, ex51, ex52, ex53, ex54, s0, s1, s2, s3, s4]
  exact ⟨_, _, rfl, by simp only [upd_at, Nat.reduceEqDiff, reduceIte, h2], by simp only [upd_at, Nat.reduceEqDiff, reduceIte], by simp only [upd_at, Nat.reduceEqDiff, reduceIte, h5], by simp only [upd_at, Nat.reduceEqDiff, reduceIte, h17], by simp only [upd_at, Nat.reduceEqDiff, reduceIte], g5, hoth⟩
end
end Go.Am.Seat
namespace Go.Am.Seat
open Go.Proofs Go.Am Go.Am.Num
set_option maxHeartbeats 4000000
def TimesOk (self : Self) : Prop := ∀ x0 x1 x2 x3 n a b c d V : Nat, x0 < 18446744073709551616 → x1 < 18446744073709551616 → x2 < 18446744073709551616 → x3 < 18446744073709551616 → n < 18446744073709551616 → a < 18446744073709551616 → b < 18446744073709551616 → c < 18446744073709551616 → d < 18446744073709551616 → V = v4 x0 x1 x2 x3 * n + v4 a b c d →
      Ans self 46 [st4 x0 x1 x2 x3, .int .u64 (n : Nat), .int .u64 (a : Nat), .int .u64 (b : Nat), .int .u64 (c : Nat), .int .u64 (d : Nat)] (tup5 (wd 0 V) (wd 1 V) (wd 2 V) (wd 3 V) (wd 4 V))
def SettleOk (self : Self) : Prop := ∀ a b c d more : Nat, a < 18446744073709551616 → b < 18446744073709551616 → c < 18446744073709551616 → d < 18446744073709551616 → more < 4294967296 →
      Ans self 26 [.int .u64 (a : Nat), .int .u64 (b : Nat), .int .u64 (c : Nat), .int .u64 (d : Nat), .int .u64 (more : Nat)] (el ((v4 a b c d + more * 115792089237316195423570985008687907853269984665640564039457584007913129639936) % P25519))
section
variable {self : Self} {nf : Nat} {M : Mem} {F : Nat → Value} {X Y i p q : Nat}
theorem lastFm (h18 : F 18 = .int .i64 (i : Nat)) (hi : 4 ≤ i) : ∃ F', acodeN E self nf lpfm_0 (lst F 86) M = some (.exit 0, lst F' 86, M) ∧ F' 4 = F 4 ∧ F' 5 = F 5 := by
  have hlt : decide (((i : Nat) : Int) < 4) = false := decide_eq_false (by omega)
  simp only [lpfm_0_eq, ↓dfm_5, ↓sfm_5, efm_0, efm_1, efm_2, efm_3, efm_4, efm_5, efm_6, efm_7, efm_8, lfm_0, lfm_1, lfm_2, lfm_3, lfm_4, lfm_5, lfm_6, lfm_7, lfm_8, agd_none, gdAt, gdV_bool, gdV_undef, Tryz.f22, List.append_eq, List.cons_append, List.nil_append, apure_call1, apure_call2, apure_call3, bft, btf, acodeN, List.getElem?_toArray, List.getElem?_cons_zero, List.getElem?_cons_succ, aopsN, adrawT, cls, astep, aop, afloat, ev, nth_lst, get_lst, aput, setAt_lst, upd_at, init_zero, init_succ, init_nil, Nat.reduceLT, Nat.reduceEqDiff, reduceIte, abuiltin, alen, Option.map_some, Option.map_none, orElse_some, apure_add, apure_eqlV, eqlVal_str, eqlVal_bool, eqlVal_ptr, eqlVal_slice, eqlVal_wide, eqlVal_int, allT, ↓aop_eqlV, apure_neq, List.map_cons, List.map_nil, List.all_cons, List.all_nil, lit2, lit1, lit0, List.isEmpty_nil, bls, Bool.false_eq_true, if_true, if_false, List.length_map, beq_self_eq_true, uns, h18, lss64, hlt]
  exact ⟨_, rfl, by simp only [upd_at, Nat.reduceEqDiff, reduceIte], by simp only [upd_at, Nat.reduceEqDiff, reduceIte]⟩
theorem loopFm (h2 : F 2 = .pointer (some ⟨p, 0, none⟩)) (h5 : F 5 = .pointer (some ⟨q, 0, none⟩)) (h17 : F 17 = st4 (wd 0 Y) (wd 1 Y) (wd 2 Y) (wd 3 Y)) (h18 : F 18 = .int .i64 0)
    (hX : X < 115792089237316195423570985008687907853269984665640564039457584007913129639936) (hpq : p ≠ q)
    (hp : M[p]? = some (.row false 27 (c4 (wd 0 X) (wd 1 X) (wd 2 X) (wd 3 X)))) (hq : M[q]? = some (.row false 60 (rowK .u64 8 fun _ => 0))) (htm : TimesOk self) (hf : 10 < nf) :
    ∃ F' M', aloop (acodeN E self nf lpfm_0) nf (lst F 86) M = some (.exit 0, lst F' 86, M') ∧ F' 4 = F 4 ∧ F' 5 = F 5 ∧
      M'[q]? = some (.row false 60 (rowK .u64 8 fun j => wd j (X * (Y % 18446744073709551616 ^ 4)))) ∧ (∀ b, b ≠ q → M'[b]? = M[b]?) := by
  have hloop := aloop_inv (body := acodeN E self nf lpfm_0) (N := 4)
    (I := fun i T m' => m'[q]? = some (.row false 60 (rowK .u64 8 fun j => wd j (X * (Y % 18446744073709551616 ^ i)))) ∧ (∀ b, b ≠ q → m'[b]? = M[b]?) ∧ ∃ G, T = lst G 86 ∧ G 2 = F 2 ∧ G 4 = F 4 ∧ G 5 = F 5 ∧ G 17 = F 17 ∧ G 18 = .int .i64 (i : Nat))
    (Q := fun e T m' => e = .exit 0 ∧ m'[q]? = some (.row false 60 (rowK .u64 8 fun j => wd j (X * (Y % 18446744073709551616 ^ 4)))) ∧ (∀ b, b ≠ q → m'[b]? = M[b]?) ∧ ∃ G, T = lst G 86 ∧ G 4 = F 4 ∧ G 5 = F 5) (fun i T m' hi hI => by
      obtain ⟨gq, ho, G, rfl, g2, g4, g5, g17, g18⟩ := hI
      by_cases hlt : i < 4
      · left
        obtain ⟨F', M', hr, f2, f4, f5, f17, f18, k1, k2⟩ := iterFm (self := self) (nf := nf) (X := X) (g2.trans h2) (g5.trans h5) (g17.trans h17) g18 hlt hX (prod_lt hX Y i) (by rw [ho p hpq]; exact hp) gq htm
        refine ⟨_, _, hr, hlt, ?_, fun b hb => by rw [k2 b hb, ho b hb], F', rfl, f2.trans g2, f4.trans g4, f5.trans g5, f17.trans g17, f18⟩
        rw [k1, ← prod_step]
      · right
        obtain ⟨F', hr, f4, f5⟩ := lastFm (self := self) (nf := nf) (M := m') g18 (by omega)
        have : i = 4 := by omega
        subst this
        exact ⟨_, _, _, hr, by simp, rfl, gq, ho, F', rfl, f4.trans g4, f5.trans g5⟩)
  obtain ⟨e, T', M', hr, rfl, gq, ho, G, rfl, g4, g5⟩ := hloop 4 0 nf (lst F 86) M (by omega) (by omega) ⟨by
    rw [hq]
    refine congrArg (fun l => some (Blk.row false 60 l)) (rowK_ext fun j _ => ?_)
    rw [Nat.pow_zero, Nat.mod_one, Nat.mul_zero]
    simp [wd], fun _ _ => rfl, F, rfl, rfl, rfl, rfl, rfl, h18⟩
  exact ⟨G, M', hr, g4, g5, gq, ho⟩
theorem fm_body {m : Mem} (hX : X < 115792089237316195423570985008687907853269984665640564039457584007913129639936) (hY : Y < 115792089237316195423570985008687907853269984665640564039457584007913129639936) (htm : TimesOk self) (hse : SettleOk self) (hf : 10 < nf) :
    ∃ m', abody E self nf 22 [el X, el Y] m = some (el (X * Y % P25519), m') := by
  rw [abody_eqF (by kernel_rfl) Tryz.func22 bodyfm (by kernel_rfl) (Nat.le_of_ble_eq_true rfl)]
  rw [show Tryz.f22.ntmps = 86 from rfl]
  have b1 := box48 (wd 0 X) (wd 1 X) (wd 2 X) (wd 3 X) m
  generalize hA : m ++ [Blk.row false 27 (c4 (wd 0 X) (wd 1 X) (wd 2 X) (wd 3 X))] = A at b1
  have lA : A.length = m.length + 1 := by rw [← hA]; simp
  have b2 := box48 (wd 0 Y) (wd 1 Y) (wd 2 Y) (wd 3 Y) A
  rw [lA] at b2
  generalize hB : A ++ [Blk.row false 27 (c4 (wd 0 Y) (wd 1 Y) (wd 2 Y) (wd 3 Y))] = B at b2
  have lB : B.length = m.length + 2 := by rw [← hB]; simp [lA]
  have b3 := alloc48 B
  rw [lB] at b3
  generalize hC : B ++ [Blk.row false 27 (c4 0 0 0 0)] = C at b3
  have lC : C.length = m.length + 3 := by rw [← hC]; simp [lB]
  have b4 := alloc23 C
  rw [lC] at b4
  generalize hD : C ++ [Blk.row false 60 (rowK .u64 8 fun _ => 0)] = D at b4
  have gx : D[m.length]? = some (.row false 27 (c4 (wd 0 X) (wd 1 X) (wd 2 X) (wd 3 X))) := by
    rw [← hD, List.getElem?_append_left (by omega), ← hC, List.getElem?_append_left (by omega), ← hB, List.getElem?_append_left (by omega), ← hA]; simp
  have gy : D[m.length + 1]? = some (.row false 27 (c4 (wd 0 Y) (wd 1 Y) (wd 2 Y) (wd 3 Y))) := by
    rw [← hD, List.getElem?_append_left (by omega), ← hC, List.getElem?_append_left (by omega), ← hB, List.getElem?_append_right (by omega), lA]; simp
  have gr : D[m.length + 2]? = some (.row false 27 (c4 0 0 0 0)) := by
    rw [← hD, List.getElem?_append_left (by omega), ← hC, List.getElem?_append_right (by omega), lB]; simp
  have gs : D[m.length + 3]? = some (.row false 60 (rowK .u64 8 fun _ => 0)) := by
    rw [← hD, List.getElem?_append_right (by omega), lC]; simp
  obtain ⟨y0, y1, y2, y3⟩ := cell4 gy
  obtain ⟨G, M1, hl, g4, g5, ks, ko⟩ := loopFm (self := self) (nf := nf) (M := D) (p := m.length) (q := m.length + 3) (X := X) (Y := Y) (F := upd (upd (upd (upd (upd (upd (upd (upd (upd (upd (upd (upd (upd (upd (init [el X, el Y]) 2 (.pointer (some ⟨m.length, 0, none⟩))) 3 (.pointer (some ⟨m.length + 1, 0, none⟩))) 4 (.pointer (some ⟨m.length + 2, 0, none⟩))) 5 (.pointer (some ⟨m.length + 3, 0, none⟩))) 9 (.pointer (some ⟨m.length + 1, 0, none⟩))) 10 (.int .u64 (wd 0 Y : Nat))) 11 (.pointer (some ⟨m.length + 1, 1, none⟩))) 12 (.int .u64 (wd 1 Y : Nat))) 13 (.pointer (some ⟨m.length + 1, 2, none⟩))) 14 (.int .u64 (wd 2 Y : Nat))) 15 (.pointer (some ⟨m.length + 1, 3, none⟩))) 16 (.int .u64 (wd 3 Y : Nat))) 17 (st4 (wd 0 Y) (wd 1 Y) (wd 2 Y) (wd 3 Y))) 18 (.int .i64 0)) rfl rfl rfl rfl hX (by omega) gx gs htm hf
  have g4' : G 4 = .pointer (some ⟨m.length + 2, 0, none⟩) := g4
  have g5' : G 5 = .pointer (some ⟨m.length + 3, 0, none⟩) := g5
  have e4 : (18446744073709551616 : Nat) ^ 4 = 115792089237316195423570985008687907853269984665640564039457584007913129639936 := by decide
  rw [e4, Nat.mod_eq_of_lt hY] at ks
  obtain ⟨S, hS⟩ : ∃ S, S = X * Y := ⟨_, rfl⟩
  rw [← hS] at ks
  have hSb : S < 18446744073709551616 ^ 8 := by
    have e8 : (18446744073709551616 : Nat) ^ 8 = 115792089237316195423570985008687907853269984665640564039457584007913129639936 * 115792089237316195423570985008687907853269984665640564039457584007913129639936 := by decide
    rw [hS, e8]
    exact Nat.mul_lt_mul'' hX hY
  have kr : M1[m.length + 2]? = some (.row false 27 (c4 0 0 0 0)) := by rw [ko _ (by omega)]; exact gr
  have hlM1 : m.length + 3 < M1.length := lt_of_at ks
  have i0 := a23.ix (p := m.length + 3) (j := 0) (by omega)
  have i1 := a23.ix (p := m.length + 3) (j := 1) (by omega)
  have i2 := a23.ix (p := m.length + 3) (j := 2) (by omega)
  have i3 := a23.ix (p := m.length + 3) (j := 3) (by omega)
  have i4 := a23.ix (p := m.length + 3) (j := 4) (by omega)
  have i5 := a23.ix (p := m.length + 3) (j := 5) (by omega)
  have i6 := a23.ix (p := m.length + 3) (j := 6) (by omega)
  have i7 := a23.ix (p := m.length + 3) (j := 7) (by omega)
  simp only [Int.cast_ofNat_Int, Int.natCast_zero, Int.natCast_one] at i0 i1 i2 i3 i4 i5 i6 i7
  have c4' := cellK (j := 4) ks (by omega)
  have c5' := cellK (j := 5) ks (by omega)
  have c6' := cellK (j := 6) ks (by omega)
  have c7' := cellK (j := 7) ks (by omega)
  have b5 := alloc48 M1
  generalize hN : M1 ++ [Blk.row false 27 (c4 0 0 0 0)] = N at b5
  have gn : N[M1.length]? = some (.row false 27 (c4 0 0 0 0)) := by rw [← hN]; simp
  have st1 := store48 (a := wd 4 S) (b := wd 5 S) (c := wd 6 S) (d := wd 7 S) gn rfl
  obtain ⟨N2, hN2⟩ : ∃ N2, N2 = N.set M1.length (.row false 27 (c4 (wd 4 S) (wd 5 S) (wd 6 S) (wd 7 S))) := ⟨_, rfl⟩
  rw [← hN2] at st1
  have lt := load48 (m := N2) (p := M1.length) (a := wd 4 S) (b := wd 5 S) (c := wd 6 S) (d := wd 7 S) (by rw [hN2, List.getElem?_set_self (lt_of_at gn)])
  have hN2o : ∀ b, b < M1.length → N2[b]? = M1[b]? := fun b hb => by rw [hN2, List.getElem?_set_ne (by omega), ← hN, List.getElem?_append_left hb]
  have ks2 : N2[m.length + 3]? = some (.row false 60 (rowK .u64 8 fun j => wd j S)) := by rw [hN2o _ hlM1]; exact ks
  have kr2 : N2[m.length + 2]? = some (.row false 27 (c4 0 0 0 0)) := by rw [hN2o _ (by omega)]; exact kr
  have d0 := cellK (j := 0) ks2 (by omega)
  have d1 := cellK (j := 1) ks2 (by omega)
  have d2 := cellK (j := 2) ks2 (by omega)
  have d3 := cellK (j := 3) ks2 (by omega)
  obtain ⟨V, hV⟩ : ∃ V, V = S / 115792089237316195423570985008687907853269984665640564039457584007913129639936 * 38 + S % 115792089237316195423570985008687907853269984665640564039457584007913129639936 := ⟨_, rfl⟩
  have hv4 : v4 (wd 4 S) (wd 5 S) (wd 6 S) (wd 7 S) = S / 115792089237316195423570985008687907853269984665640564039457584007913129639936 := by
    rw [← e4]; exact v4_at (i := 4) hSb
  have ct := htm (wd 4 S) (wd 5 S) (wd 6 S) (wd 7 S) 38 (wd 0 S) (wd 1 S) (wd 2 S) (wd 3 S) V (wd_lt _ _) (wd_lt _ _) (wd_lt _ _) (wd_lt _ _) (by decide) (wd_lt _ _) (wd_lt _ _) (wd_lt _ _) (wd_lt _ _) (by rw [hv4, v4_low]; exact hV)
  obtain ⟨f1, f2, f3⟩ := fold_ok hSb hV
  have cs := hse (wd 0 V) (wd 1 V) (wd 2 V) (wd 3 V) (wd 4 V) (wd_lt _ _) (wd_lt _ _) (wd_lt _ _) (wd_lt _ _) f1
  rw [f2] at cs
  have f3' : V % P25519 = S % P25519 := f3
  rw [f3', hS] at cs
  unfold Ans at ct cs
  rw [show (((38 : Nat)) : Int) = 38 from rfl] at ct
  obtain ⟨R, hR⟩ : ∃ R, R = X * Y % P25519 := ⟨_, rfl⟩
  rw [← hR] at cs ⊢
  have st2 := store48 (a := wd 0 R) (b := wd 1 R) (c := wd 2 R) (d := wd 3 R) kr2 rfl
  have ld2 := load48 (m := N2.set (m.length + 2) (.row false 27 (c4 (wd 0 R) (wd 1 R) (wd 2 R) (wd 3 R)))) (p := m.length + 2) (a := wd 0 R) (b := wd 1 R) (c := wd 2 R) (d := wd 3 R) (by rw [List.getElem?_set_self (lt_of_at kr2)])
  have hel : ∀ Z, el Z = st4 (wd 0 Z) (wd 1 Z) (wd 2 Z) (wd 3 Z) := fun _ => rfl
  rw [hel X, hel Y] at hl ⊢
  rw [hel R] at cs ⊢
  clear hS hSb hV hv4 f1 f2 f3 f3' hR htm hse hN2 hN2o hN hD hC hB hA ko gx gy gr gs kr kr2 ks ks2 g4 g5 gn
  generalize wd 0 S = S0 at *
  generalize wd 1 S = S1 at *
  generalize wd 2 S = S2 at *
  generalize wd 3 S = S3 at *
  generalize wd 4 S = S4 at *
  generalize wd 5 S = S5 at *
  generalize wd 6 S = S6 at *
  generalize wd 7 S = S7 at *
  generalize wd 0 V = V0 at *
  generalize wd 1 V = V1 at *
  generalize wd 2 V = V2 at *
  generalize wd 3 V = V3 at *
  generalize wd 4 V = V4 at *
  generalize wd 0 R = R0 at *
  generalize wd 1 R = R1 at *
  generalize wd 2 R = R2 at *
  generalize wd 3 R = R3 at *
  generalize wd 0 X = X0 at *
  generalize wd 1 X = X1 at *
  generalize wd 2 X = X2 at *
  generalize wd 3 X = X3 at *
  generalize wd 0 Y = Y0 at *
  generalize wd 1 Y = Y1 at *
  generalize wd 2 Y = Y2 at *
  generalize wd 3 Y = Y3 at *
  simp only [↓dfm_5, ↓sfm_5, efm_0, efm_1, efm_2, efm_3, efm_4, efm_5, efm_6, efm_7, efm_8, lfm_0, lfm_1, lfm_2, lfm_3, lfm_4, lfm_5, lfm_6, lfm_7, lfm_8, agd_none, gdAt, gdV_bool, gdV_undef, Tryz.f22, List.append_eq, List.cons_append, List.nil_append, apure_call1, apure_call2, apure_call3, bft, btf, acodeN, List.getElem?_toArray, List.getElem?_cons_zero, List.getElem?_cons_succ, aopsN, adrawT, cls, astep, aop, afloat, ev, nth_lst, get_lst, aput, setAt_lst, upd_at, init_zero, init_succ, init_nil, Nat.reduceLT, Nat.reduceEqDiff, reduceIte, abuiltin, alen, Option.map_some, Option.map_none, orElse_some, apure_add, apure_eqlV, eqlVal_str, eqlVal_bool, eqlVal_ptr, eqlVal_slice, eqlVal_wide, eqlVal_int, allT, ↓aop_eqlV, apure_neq, List.map_cons, List.map_nil, List.all_cons, List.all_nil, lit2, lit1, lit0, List.isEmpty_nil, bls, Bool.false_eq_true, if_true, if_false, List.length_map, beq_self_eq_true, uns, b1, b2, b3, b4, fa48_0, fa48_1, fa48_2, fa48_3, load22, y0, y1, y2, y3, apure_build4, build87, build48, hl, g4', g5', i0, i1, i2, i3, i4, i5, i6, i7, c4', c5', c6', c7', b5, st1, lt, d0, d1, d2, d3, callTm, ct, ex50, ex51, ex52, ex53, ex54, callSe, cs, st2, ld2, finish, ares, aresL, ares1]
  exact ⟨_, rfl⟩
end
end Go.Am.Seat
namespace Go.Am.Seat
open Go.Proofs Go.Am Go.Am.Num
set_option maxHeartbeats 4000000
section
variable {e : TypeId} {k : IntKind}
theorem pv_eqIntG (hu : E.P.underlying e = some (.int k)) (d : Nat) (a b : Int) : pv E.P (Op.equalIn (d + 1) e (.int k a) (.int k b)) = some (a == b) := by
  unfold Op.equalIn
  rw [pv_bind (pv_und hu)]
  simp
  rfl
theorem pv_partG (ha : pv E.P (isAgg e) = some false) {n : Nat} (w : Nat → Nat) {j : Nat} (h : j < n) : pv E.P (part e ⟨rowK k n w⟩ j) = some (.int k ((w j : Nat) : Int)) := by
  unfold part
  rw [pv_bind ha]
  have hg : (⟨rowK k n w⟩ : Array Value)[j]? = some (.int k ((w j : Nat) : Int)) := by
    rw [List.getElem?_toArray, rowK_get h]
  simp only [Bool.false_eq_true, if_false, hg]
  rfl
def eqBodyG (e : TypeId) (k : IntKind) (n : Nat) (u v : Nat → Nat) (i : Nat) (_s : Option Bool × Unit) : Sem (ForInStep (Option Bool × Unit)) := do
  let a ← part e ⟨rowK k n u⟩ (i * 1)
  let b ← part e ⟨rowK k n v⟩ (i * 1)
  let c ← Op.equalIn 9999 e a b
  if (!c) = true then pure (ForInStep.done (some false, ())) else pure (ForInStep.yield (none, ()))
theorem pv_bodyG (hu : E.P.underlying e = some (.int k)) (ha : pv E.P (isAgg e) = some false) {n : Nat} (u v : Nat → Nat) {i : Nat} (h : i < n) (x : Option Bool × Unit) : pv E.P (eqBodyG e k n u v i x) = some (if ((u i : Nat) : Int) == ((v i : Nat) : Int) then ForInStep.yield (none, ()) else ForInStep.done (some false, ())) := by
  unfold eqBodyG
  rw [Nat.mul_one, pv_bind (pv_partG ha u h), pv_bind (pv_partG ha v h), pv_bind (pv_eqIntG hu 9998 _ _)]
  cases hq : (((u i : Nat) : Int) == ((v i : Nat) : Int)) <;> rfl
theorem pv_loopG (hu : E.P.underlying e = some (.int k)) (ha : pv E.P (isAgg e) = some false) {n : Nat} (u v : Nat → Nat) : ∀ l : List Nat, (∀ i, i ∈ l → i < n) → pv E.P (forIn l (none, ()) (eqBodyG e k n u v)) = some (if l.all (fun j => ((u j : Nat) : Int) == ((v j : Nat) : Int)) then (none, ()) else (some false, ()))
  | [], _ => rfl
  | a :: l, h => by
    rw [List.forIn_cons, pv_bind (pv_bodyG hu ha u v (h a (by simp)) _), List.all_cons]
    cases hq : (((u a : Nat) : Int) == ((v a : Nat) : Int)) with
    | true =>
      simp only [if_true, Bool.true_and]
      exact pv_loopG hu ha u v l fun i hi => h i (by simp [hi])
    | false => rfl
theorem pv_equalG {t : TypeId} {n : Nat} (ht : ArrT t n e k) (ha : pv E.P (isAgg e) = some false) (hs : pv E.P (sizeOf e) = some 1) (u v : Nat → Nat) : pv E.P (Op.equal t (arrK k n u) (arrK k n v)) = some ((List.range n).all fun j => ((u j : Nat) : Int) == ((v j : Nat) : Int)) := by
  unfold Op.equal Op.maxDepth
  rw [show (10000 : Nat) = 9999 + 1 from rfl]
  unfold Op.equalIn arrK
  rw [pv_bind (pv_und ht.und)]
  simp only
  rw [pv_bind hs]
  simp only [Std.Legacy.Range.forIn_eq_forIn_range', Std.Legacy.Range.size, Nat.sub_zero, Nat.add_sub_cancel, Nat.div_one]
  have hl := pv_loopG ht.unde ha u v (List.range n) (fun i hi => List.mem_range.1 hi)
  rw [List.range_eq_range'] at hl ⊢
  show pv E.P (forIn (List.range' 0 n) (none, ()) (eqBodyG e k n u v) >>= _) = _
  rw [pv_bind hl]
  cases hq : (List.range' 0 n).all (fun j => ((u j : Nat) : Int) == ((v j : Nat) : Int)) <;> rfl
theorem eqlVal_arr {t : TypeId} {n : Nat} (ht : ArrT t n e k) (ha : pv E.P (isAgg e) = some false) (hs : pv E.P (sizeOf e) = some 1) (hq : E.P.eqGuardType E.P.depth t = false) {x y : Operand} (u v : Nat → Nat) :
    eqlVal E.P t x y (arrK k n u) (arrK k n v) = some (.bool ((List.range n).all fun j => ((u j : Nat) : Int) == ((v j : Nat) : Int))) := by
  have hg : pv E.P (eqGuard .eql t x y (arrK k n u) (arrK k n v)) = some () := by
    unfold eqGuard arrK
    simp only [Bool.not_true, Bool.false_eq_true, if_false]
    rw [pv_bind (a := E.P) rfl, pv_bind (a := E.P) rfl]
    rw [hq]
    rfl
  have hb : pv E.P (binOp .eql t (arrK k n u) (arrK k n v)) = some (.bool ((List.range n).all fun j => ((u j : Nat) : Int) == ((v j : Nat) : Int))) := by
    show pv E.P (Op.equal t (arrK k n u) (arrK k n v) >>= fun c => pure (Value.bool c)) = _
    rw [pv_bind (pv_equalG ht ha hs u v)]
    rfl
  unfold eqlVal
  rw [arrK_lit, arrK_lit]
  simp only [Bool.and_self, if_true]
  rw [pv_bind (a := Value.bool ((List.range n).all fun j => ((u j : Nat) : Int) == ((v j : Nat) : Int))) (by rw [pv_bind hg, hb])]
  rfl
end
noncomputable def neqVal (P : Program) (s : TypeId) (x y : Operand) (u v : Value) : Option Value :=
  if lit2 u && (lit2 v && true) then
    match pv P ((eqGuard .neq s x y u v >>= fun _ => binOp .neq s u v) >>= fun r => pure (Next.value r)) with
    | some (.value r) => if lit2 r then some r else none
    | _ => none
  else none
theorem apure_neqV {P : Program} {T : List Value} {d : Option Tmp} {s t ty : TypeId} {x y : Operand} {pos : String} {af : Array Edge} {g : Option (Nat × Bool)} :
    apure P T { dst := d, op := .binOp .neq s x y t, type := ty, pos := pos, after := af, guard := g } = neqVal P s x y (ev T x) (ev T y) := by
  unfold apure neqVal
  simp only [Op.operands, List.all_cons, List.all_nil, execOp]
  rfl
theorem a46 : ArrT 23 32 5 .u8 := ⟨Tryz.underlying23, und5, info_of (by kernel_rfl), info_of (by kernel_rfl)⟩
theorem eql46 {x y : Operand} (u v : Nat → Nat) : eqlVal E.P 23 x y (arrK .u8 32 u) (arrK .u8 32 v) = some (.bool ((List.range 32).all fun j => ((u j : Nat) : Int) == ((v j : Nat) : Int))) := eqlVal_arr a46 (by kernel_rfl) (by kernel_rfl) (by kernel_rfl) u v
theorem fs48 : ∃ fs, E.P.underlying 27 = some (.struct fs) ∧ (∀ f ∈ fs.toList, f.name ≠ "_" ∧ f.type = 25 ∧ f.offset < 4) ∧ fs.toList.map (·.offset) = [0, 1, 2, 3] := by
  have h : (match E.P.underlying 27 with | some (.struct fs) => fs.toList.all (fun f => decide (f.name ≠ "_") && (decide (f.type = 25) && decide (f.offset < 4))) && decide (fs.toList.map (·.offset) = [0, 1, 2, 3]) | _ => false) = true := by kernel_rfl
  split at h
  · rename_i fs hfs
    simp only [Bool.and_eq_true, List.all_eq_true, decide_eq_true_eq] at h
    exact ⟨fs, hfs, fun f hf => ⟨(h.1 f hf).1, (h.1 f hf).2.1, (h.1 f hf).2.2⟩, h.2⟩
  · cases h
theorem st48 : E.P.stoodInHeld 27 = false := by kernel_rfl
def eqBodyS (u v : Nat → Nat) (f : Field) (_s : Option Bool × Unit) : Sem (ForInStep (Option Bool × Unit)) :=
  if f.name ≠ "_" then do
    let a ← part f.type ⟨rowK .u64 4 u⟩ f.offset
    let b ← part f.type ⟨rowK .u64 4 v⟩ f.offset
    let c ← Op.equalIn 9999 f.type a b
    if (!c) = true then pure (ForInStep.done (some false, ())) else pure (ForInStep.yield (none, ()))
  else pure (ForInStep.yield (none, ()))
theorem pv_bodyS (u v : Nat → Nat) {f : Field} (h : f.name ≠ "_" ∧ f.type = 25 ∧ f.offset < 4) (x : Option Bool × Unit) : pv E.P (eqBodyS u v f x) = some (if ((u f.offset : Nat) : Int) == ((v f.offset : Nat) : Int) then ForInStep.yield (none, ()) else ForInStep.done (some false, ())) := by
  unfold eqBodyS
  have ha : pv E.P (isAgg 25) = some false := by kernel_rfl
  rw [if_pos h.1, h.2.1, pv_bind (pv_partG ha u h.2.2), pv_bind (pv_partG ha v h.2.2), pv_bind (pv_eqIntG und22 9998 _ _)]
  cases hq : (((u f.offset : Nat) : Int) == ((v f.offset : Nat) : Int)) <;> rfl
theorem pv_loopS (u v : Nat → Nat) : ∀ l : List Field, (∀ f ∈ l, f.name ≠ "_" ∧ f.type = 25 ∧ f.offset < 4) → pv E.P (forIn l (none, ()) (eqBodyS u v)) = some (if (l.map (·.offset)).all (fun j => ((u j : Nat) : Int) == ((v j : Nat) : Int)) then (none, ()) else (some false, ()))
  | [], _ => rfl
  | a :: l, h => by
    rw [List.forIn_cons, pv_bind (pv_bodyS u v (h a (by simp)) _), List.map_cons, List.all_cons]
    cases hq : (((u a.offset : Nat) : Int) == ((v a.offset : Nat) : Int)) with
    | true =>
      simp only [if_true, Bool.true_and]
      exact pv_loopS u v l fun f hf => h f (by simp [hf])
    | false => rfl
theorem pv_equalS (u v : Nat → Nat) : pv E.P (Op.equal 27 (arrK .u64 4 u) (arrK .u64 4 v)) = some ([0, 1, 2, 3].all fun j => ((u j : Nat) : Int) == ((v j : Nat) : Int)) := by
  obtain ⟨fs, h1, h2, h3⟩ := fs48
  unfold Op.equal Op.maxDepth
  rw [show (10000 : Nat) = 9999 + 1 from rfl]
  unfold Op.equalIn arrK
  rw [pv_bind (pv_und h1)]
  simp only
  rw [pv_bind (a := E.P) rfl, st48]
  simp only [Bool.false_eq_true, if_false]
  have hl := pv_loopS u v fs.toList h2
  rw [h3] at hl
  rw [← Array.forIn_toList]
  show pv E.P (forIn fs.toList (none, ()) (eqBodyS u v) >>= _) = _
  rw [pv_bind hl]
  cases hq : [0, 1, 2, 3].all (fun j => ((u j : Nat) : Int) == ((v j : Nat) : Int)) <;> rfl
theorem el_arr (V : Nat) : el V = arrK .u64 4 (fun j => wd j V) := rfl
theorem el_inj {U V : Nat} (hU : U < 115792089237316195423570985008687907853269984665640564039457584007913129639936) (hV : V < 115792089237316195423570985008687907853269984665640564039457584007913129639936) : ([0, 1, 2, 3].all fun j => ((wd j U : Nat) : Int) == ((wd j V : Nat) : Int)) = decide (U = V) := by
  by_cases h : U = V
  · subst h; simp
  · rw [decide_eq_false h]
    cases hq : [0, 1, 2, 3].all (fun j => ((wd j U : Nat) : Int) == ((wd j V : Nat) : Int)) with
    | false => rfl
    | true =>
      exfalso
      simp only [List.all_cons, List.all_nil, Bool.and_true, Bool.and_eq_true, beq_iff_eq, Int.natCast_inj] at hq
      obtain ⟨q0, q1, q2, q3⟩ := hq
      apply h
      rw [← v4_wd hU, ← v4_wd hV, q0, q1, q2, q3]
theorem eql48 {x y : Operand} {U V : Nat} (hU : U < 115792089237316195423570985008687907853269984665640564039457584007913129639936) (hV : V < 115792089237316195423570985008687907853269984665640564039457584007913129639936) : eqlVal E.P 27 x y (el U) (el V) = some (.bool (decide (U = V))) := by
  rw [el_arr, el_arr, ← el_inj hU hV]
  suffices key : ∀ u v : Nat → Nat, eqlVal E.P 27 x y (arrK .u64 4 u) (arrK .u64 4 v) = some (.bool ([0, 1, 2, 3].all fun j => ((u j : Nat) : Int) == ((v j : Nat) : Int))) from key _ _
  intro u v
  have hq : E.P.eqGuardType E.P.depth 27 = false := by kernel_rfl
  have hg : pv E.P (eqGuard .eql 27 x y (arrK .u64 4 u) (arrK .u64 4 v)) = some () := by
    unfold eqGuard arrK
    simp only [Bool.not_true, Bool.false_eq_true, if_false]
    rw [pv_bind (a := E.P) rfl, pv_bind (a := E.P) rfl]
    rw [hq]
    rfl
  have hb : pv E.P (binOp .eql 27 (arrK .u64 4 u) (arrK .u64 4 v)) = some (.bool ([0, 1, 2, 3].all fun j => ((u j : Nat) : Int) == ((v j : Nat) : Int))) := by
    show pv E.P (Op.equal 27 (arrK .u64 4 u) (arrK .u64 4 v) >>= fun c => pure (Value.bool c)) = _
    rw [pv_bind (pv_equalS u v)]
    rfl
  unfold eqlVal
  rw [arrK_lit, arrK_lit]
  simp only [Bool.and_self, if_true]
  rw [pv_bind (a := Value.bool ([0, 1, 2, 3].all fun j => ((u j : Nat) : Int) == ((v j : Nat) : Int))) (by rw [pv_bind hg, hb])]
  rfl
end Go.Am.Seat
namespace Go.Am.Seat
open Go.Proofs Go.Am Go.Am.Num
set_option maxHeartbeats 4000000
-- ntmps 46
noncomputable def rng_0 : Array Oper := match Tryz.f32.body with
  | some (.seq (.region _ o _) _) => o
  | _ => #[]
noncomputable def lng_0 : List Oper := match Tryz.f32.body with
  | some (.seq (.region _ o _) _) => o.toList
  | _ => []
theorem eng_0 : rng_0.toList = lng_0 := rfl
noncomputable def rng_1 : Array Oper := match Tryz.f32.body with
  | some (.seq _ (.seq (.region _ o _) _)) => o
  | _ => #[]
noncomputable def lng_1 : List Oper := match Tryz.f32.body with
  | some (.seq _ (.seq (.region _ o _) _)) => o.toList
  | _ => []
theorem eng_1 : rng_1.toList = lng_1 := rfl
noncomputable def rng_2 : Array Oper := match Tryz.f32.body with
  | some (.seq _ (.seq _ (.seq (.region _ o _) _))) => o
  | _ => #[]
noncomputable def lng_2 : List Oper := match Tryz.f32.body with
  | some (.seq _ (.seq _ (.seq (.region _ o _) _))) => o.toList
  | _ => []
theorem eng_2 : rng_2.toList = lng_2 := rfl
noncomputable def rng_3 : Array Oper := match Tryz.f32.body with
  | some (.seq _ (.seq _ (.seq _ (.seq (.region _ o _) _)))) => o
  | _ => #[]
noncomputable def lng_3 : List Oper := match Tryz.f32.body with
  | some (.seq _ (.seq _ (.seq _ (.seq (.region _ o _) _)))) => o.toList
  | _ => []
theorem eng_3 : rng_3.toList = lng_3 := rfl
noncomputable def rng_4 : Array Oper := match Tryz.f32.body with
  | some (.seq _ (.seq _ (.seq _ (.seq _ (.seq (.region _ o _) _))))) => o
  | _ => #[]
noncomputable def lng_4 : List Oper := match Tryz.f32.body with
  | some (.seq _ (.seq _ (.seq _ (.seq _ (.seq (.region _ o _) _))))) => o.toList
  | _ => []
theorem eng_4 : rng_4.toList = lng_4 := rfl
theorem bodyng : Tryz.f32.body = some (.seq (.region 0 rng_0 false) (.seq (.region 1 rng_1 false) (.seq (.region 2 rng_2 false) (.seq (.region 3 rng_3 false) (.seq (.region 4 rng_4 false) .ret))))) := rfl
-- ntmps 44
-- ntmps 9
noncomputable def rsq_0 : Array Oper := match Tryz.f30.body with
  | some (.seq (.region _ o _) _) => o
  | _ => #[]
noncomputable def lsq_0 : List Oper := match Tryz.f30.body with
  | some (.seq (.region _ o _) _) => o.toList
  | _ => []
theorem esq_0 : rsq_0.toList = lsq_0 := rfl
noncomputable def rsq_1 : Array Oper := match Tryz.f30.body with
  | some (.seq _ (.seq (.region _ o _) _)) => o
  | _ => #[]
noncomputable def lsq_1 : List Oper := match Tryz.f30.body with
  | some (.seq _ (.seq (.region _ o _) _)) => o.toList
  | _ => []
theorem esq_1 : rsq_1.toList = lsq_1 := rfl
theorem bodysq : Tryz.f30.body = some (.seq (.region 0 rsq_0 false) (.seq (.region 1 rsq_1 false) .ret)) := rfl
-- ntmps 6
noncomputable def rng1_0 : Array Oper := match Tryz.f51.body with
  | some (.seq (.region _ o _) _) => o
  | _ => #[]
noncomputable def lng1_0 : List Oper := match Tryz.f51.body with
  | some (.seq (.region _ o _) _) => o.toList
  | _ => []
theorem eng1_0 : rng1_0.toList = lng1_0 := rfl
noncomputable def rng1_1 : Array Oper := match Tryz.f51.body with
  | some (.seq _ (.seq (.region _ o _) _)) => o
  | _ => #[]
noncomputable def lng1_1 : List Oper := match Tryz.f51.body with
  | some (.seq _ (.seq (.region _ o _) _)) => o.toList
  | _ => []
theorem eng1_1 : rng1_1.toList = lng1_1 := rfl
theorem bodyng1 : Tryz.f51.body = some (.seq (.region 0 rng1_0 false) (.seq (.region 1 rng1_1 false) .ret)) := rfl
-- ntmps 7
-- ntmps 6
-- ntmps 8
noncomputable def rab_0 : Array Oper := match Tryz.f31.body with
  | some (.seq (.region _ o _) _) => o
  | _ => #[]
noncomputable def lab_0 : List Oper := match Tryz.f31.body with
  | some (.seq (.region _ o _) _) => o.toList
  | _ => []
theorem eab_0 : rab_0.toList = lab_0 := rfl
noncomputable def rab_1 : Array Oper := match Tryz.f31.body with
  | some (.seq _ (.seq (.seq (.region _ o _) _) _)) => o
  | _ => #[]
noncomputable def lab_1 : List Oper := match Tryz.f31.body with
  | some (.seq _ (.seq (.seq (.region _ o _) _) _)) => o.toList
  | _ => []
theorem eab_1 : rab_1.toList = lab_1 := rfl
noncomputable def rab_2 : Array Oper := match Tryz.f31.body with
  | some (.seq _ (.seq (.seq _ (.cond _ (.seq (.region _ o _) _) _)) _)) => o
  | _ => #[]
noncomputable def lab_2 : List Oper := match Tryz.f31.body with
  | some (.seq _ (.seq (.seq _ (.cond _ (.seq (.region _ o _) _) _)) _)) => o.toList
  | _ => []
theorem eab_2 : rab_2.toList = lab_2 := rfl
noncomputable def rab_3 : Array Oper := match Tryz.f31.body with
  | some (.seq _ (.seq _ (.seq (.region _ o _) _))) => o
  | _ => #[]
noncomputable def lab_3 : List Oper := match Tryz.f31.body with
  | some (.seq _ (.seq _ (.seq (.region _ o _) _))) => o.toList
  | _ => []
theorem eab_3 : rab_3.toList = lab_3 := rfl
theorem bodyab : Tryz.f31.body = some (.seq (.region 0 rab_0 false) (.seq (.seq (.region 1 rab_1 false) (.cond (.tmp 4) (.seq (.region 2 rab_2 false) .ret) .skip)) (.seq (.region 3 rab_3 false) .ret))) := rfl
-- ntmps 8
def TabP (m : Mem) : Prop := m[1]? = some (.tab 63 (int64s primeW))
theorem p_lt : P25519 < 57896044618658097711785492504343953926634992332820282019728792003956564819968 := by unfold P25519; omega
theorem el_st (V : Nat) : el V = st4 (wd 0 V) (wd 1 V) (wd 2 V) (wd 3 V) := rfl
theorem eqlU2 (a b : Int) : abin .eql .u64 a .u64 b = some (.bool (a == b)) := by kernel_rfl
section
variable {self : Self} {nf : Nat} {m : Mem} {X Y : Nat}
theorem callMul : callableB E.P 22 = true := by kernel_rfl
theorem sq_body (hmu : ∀ M, ainv E self 22 [el X, el X] M = some (el Y, M)) :
    ∃ m', abody E self nf 30 [el X] m = some (el Y, m') := by
  rw [abody_eqF (by kernel_rfl) Tryz.func30 bodysq (by kernel_rfl) (Nat.le_of_ble_eq_true rfl)]
  rw [show Tryz.f30.ntmps = 6 from rfl]
  have b1 := box48 (wd 0 X) (wd 1 X) (wd 2 X) (wd 3 X) m
  generalize hA : m ++ [Blk.row false 27 (c4 (wd 0 X) (wd 1 X) (wd 2 X) (wd 3 X))] = A at b1
  have lA : A.length = m.length + 1 := by rw [← hA]; simp
  have b3 := alloc48 A
  rw [lA] at b3
  generalize hC : A ++ [Blk.row false 27 (c4 0 0 0 0)] = C at b3
  have gx : C[m.length]? = some (.row false 27 (c4 (wd 0 X) (wd 1 X) (wd 2 X) (wd 3 X))) := by
    rw [← hC, List.getElem?_append_left (by omega), ← hA]; simp
  have gr : C[m.length + 1]? = some (.row false 27 (c4 0 0 0 0)) := by
    rw [← hC, List.getElem?_append_right (by omega), lA]; simp
  have lx := load48 gx
  have st2 := store48 (a := wd 0 Y) (b := wd 1 Y) (c := wd 2 Y) (d := wd 3 Y) gr rfl
  have ld2 := load48 (m := C.set (m.length + 1) (.row false 27 (c4 (wd 0 Y) (wd 1 Y) (wd 2 Y) (wd 3 Y)))) (p := m.length + 1) (a := wd 0 Y) (b := wd 1 Y) (c := wd 2 Y) (d := wd 3 Y) (by rw [List.getElem?_set_self (lt_of_at gr)])
  rw [← el_st] at b1 lx st2 ld2
  simp only [esq_0, esq_1, lsq_0, lsq_1, agd_none, gdAt, gdV_bool, gdV_undef, Tryz.f30, List.append_eq, List.cons_append, List.nil_append, apure_call1, apure_call2, apure_call3, bft, btf, acodeN, List.getElem?_toArray, List.getElem?_cons_zero, List.getElem?_cons_succ, aopsN, adrawT, cls, astep, aop, afloat, ev, nth_lst, get_lst, aput, setAt_lst, upd_at, init_zero, init_succ, init_nil, Nat.reduceLT, Nat.reduceEqDiff, reduceIte, abuiltin, alen, Option.map_some, Option.map_none, orElse_some, apure_add, apure_eqlV, eqlVal_str, eqlVal_bool, eqlVal_ptr, eqlVal_slice, eqlVal_wide, eqlVal_int, allT, ↓aop_eqlV, apure_neq, List.map_cons, List.map_nil, List.all_cons, List.all_nil, lit2, lit1, lit0, List.isEmpty_nil, bls, Bool.false_eq_true, if_true, if_false, List.length_map, beq_self_eq_true, uns, b1, b3, lx, callMul, hmu, st2, ld2, finish, ares, aresL, ares1]
  exact ⟨_, rfl⟩
theorem ng1_body (hX : X < 115792089237316195423570985008687907853269984665640564039457584007913129639936) : ∃ m', abody E self nf 51 [el X] m = some (.bool (decide (X % 2 = 1)), m') := by
  rw [abody_eqF (by kernel_rfl) Tryz.func51 bodyng1 (by kernel_rfl) (Nat.le_of_ble_eq_true rfl)]
  rw [show Tryz.f51.ntmps = 7 from rfl]
  have b1 := box48 (wd 0 X) (wd 1 X) (wd 2 X) (wd 3 X) m
  have gx : (m ++ [Blk.row false 27 (c4 (wd 0 X) (wd 1 X) (wd 2 X) (wd 3 X))])[m.length]? = some (.row false 27 (c4 (wd 0 X) (wd 1 X) (wd 2 X) (wd 3 X))) := by simp
  generalize hA : m ++ [Blk.row false 27 (c4 (wd 0 X) (wd 1 X) (wd 2 X) (wd 3 X))] = A at b1 gx
  obtain ⟨x0, _, _, _⟩ := cell4 gx
  have a1 := and1 (wd_lt 0 X)
  have h2 : ((((wd 0 X % 2 : Nat) : Nat) : Int) == 1) = decide (X % 2 = 1) := by
    have : wd 0 X % 2 = X % 2 := by rw [wd_0]; omega
    rw [this]
    by_cases h : X % 2 = 1
    · rw [h]; rfl
    · rw [decide_eq_false h, show X % 2 = 0 by omega]; rfl
  rw [el_st]
  simp only [eng1_0, eng1_1, lng1_0, lng1_1, agd_none, gdAt, gdV_bool, gdV_undef, Tryz.f51, List.append_eq, List.cons_append, List.nil_append, apure_call1, apure_call2, apure_call3, bft, btf, acodeN, List.getElem?_toArray, List.getElem?_cons_zero, List.getElem?_cons_succ, aopsN, adrawT, cls, astep, aop, afloat, ev, nth_lst, get_lst, aput, setAt_lst, upd_at, init_zero, init_succ, init_nil, Nat.reduceLT, Nat.reduceEqDiff, reduceIte, abuiltin, alen, Option.map_some, Option.map_none, orElse_some, apure_add, apure_eqlV, eqlVal_str, eqlVal_bool, eqlVal_ptr, eqlVal_slice, eqlVal_wide, eqlVal_int, allT, ↓aop_eqlV, apure_neq, List.map_cons, List.map_nil, List.all_cons, List.all_nil, lit2, lit1, lit0, List.isEmpty_nil, bls, Bool.false_eq_true, if_true, if_false, List.length_map, beq_self_eq_true, uns, b1, fa48_0, load22, x0, a1, eqlU2, h2, finish, ares, aresL, ares1]
  exact ⟨_, rfl⟩
end
end Go.Am.Seat
namespace Go.Am.Seat
open Go.Proofs Go.Am Go.Am.Num
set_option maxHeartbeats 4000000
def AnsT (self : Self) (f : FuncId) (args : List Value) (v : Value) : Prop := ∀ M : Mem, TabP M → ainv E self f args M = some (v, M)
theorem Ans.t {self : Self} {f : FuncId} {args : List Value} {v : Value} (h : Ans self f args v) : AnsT self f args v := fun M _ => h M
theorem TabP.app {m x : Mem} (h : TabP m) : TabP (m ++ x) := by
  unfold TabP at *
  rw [List.getElem?_append_left (List.getElem?_eq_some_iff.1 h).1]
  exact h
theorem TabP.sealed {m : Mem} (h : TabP m) : TabP (m.map sealed) := by
  unfold TabP at *
  rw [List.getElem?_map, h]
  rfl
theorem TabP.set {m : Mem} (h : TabP m) {k : Nat} (hk : k ≠ 1) (b : Blk) : TabP (m.set k b) := by
  unfold TabP at *
  rw [List.getElem?_set_ne hk]
  exact h
theorem TabP.only {m : Mem} (h : TabP m) : TabP ((m.take E.G).map onlyTab) := by
  unfold TabP at *
  have hG : E.G = 8 := rfl
  rw [List.getElem?_map, List.getElem?_take_of_lt (by rw [hG]; decide), h]
  rfl
theorem ans_ofT {self : Self} {f : FuncId} {args : List Value} {v : Value} (ha : args.all lit2 = true) (hf : E.fast f = none) (hv : lit2 v = true) (h : ∀ m, TabP m → ∃ m', self f args m = some (v, m')) : AnsT self f args v := by
  intro M hM
  obtain ⟨m', h'⟩ := h ((M.take E.G).map onlyTab) hM.only
  exact ainv_lit ha hf h' hv
theorem sub64C (x y c : Nat) (m : Mem) : aext .sub64 [.int .u64 (x : Nat), .int .u64 (y : Nat), .int .u64 (c : Nat)] m = if c ≤ 1 then some (pair64 ((x + 18446744073709551616 - y - c) % 18446744073709551616) (if x < y + c then 1 else 0), m) else none := by
  simp only [aext, Int.toNat_natCast]
theorem sub64O (x y : Nat) (m : Mem) : aext .sub64 [.int .u64 (x : Nat), .int .u64 (y : Nat), .int .u64 0] m = some (pair64 ((x + 18446744073709551616 - y) % 18446744073709551616) (if x < y then 1 else 0), m) := by
  rw [show (0 : Int) = ((0 : Nat) : Int) from rfl, sub64C, if_pos (by decide)]
  rfl
theorem subN {x y : Nat} (h : y ≤ x) (hx : x < 18446744073709551616) : abin .sub .u64 ((x : Nat) : Int) .u64 ((y : Nat) : Int) = some (.int .u64 ((x - y : Nat) : Int)) := by
  rw [subU, ← Int.natCast_sub h, wrapU, Nat.mod_eq_of_lt (by omega)]
theorem ite_le (p : Prop) [Decidable p] : (if p then 1 else 0) ≤ 1 := by split <;> omega
theorem neg_ok {X : Nat} (hX : X ≤ P25519) {b1 b2 b3 : Nat} (h1 : b1 = if 18446744073709551597 < wd 0 X then 1 else 0) (h2 : b2 = if 18446744073709551615 < wd 1 X + b1 then 1 else 0) (h3 : b3 = if 18446744073709551615 < wd 2 X + b2 then 1 else 0) :
    (18446744073709551597 + 18446744073709551616 - wd 0 X) % 18446744073709551616 = wd 0 (P25519 - X) ∧ (18446744073709551615 + 18446744073709551616 - wd 1 X - b1) % 18446744073709551616 = wd 1 (P25519 - X) ∧
    (18446744073709551615 + 18446744073709551616 - wd 2 X - b2) % 18446744073709551616 = wd 2 (P25519 - X) ∧ wd 3 X ≤ 9223372036854775807 ∧ b3 ≤ 9223372036854775807 - wd 3 X ∧ 9223372036854775807 - wd 3 X - b3 = wd 3 (P25519 - X) := by
  have hXb : X < 115792089237316195423570985008687907853269984665640564039457584007913129639936 := by have := p_lt; omega
  have hv := v4_wd hXb
  have l0 := wd_lt 0 X
  have l1 := wd_lt 1 X
  have l2 := wd_lt 2 X
  have l3 := wd_lt 3 X
  unfold v4 at hv
  generalize wd 0 X = x0 at *
  generalize wd 1 X = x1 at *
  generalize wd 2 X = x2 at *
  generalize wd 3 X = x3 at *
  subst hv
  have hP : P25519 = 57896044618658097711785492504343953926634992332820282019728792003956564819949 := rfl
  rw [hP] at hX ⊢
  have hb1 : b1 ≤ 1 := by rw [h1]; exact ite_le _
  have hb2 : b2 ≤ 1 := by rw [h2]; exact ite_le _
  have hb3 : b3 ≤ 1 := by rw [h3]; exact ite_le _
  have z2 : b1 = 0 → b2 = 0 := fun h => by rw [h2, h, if_neg (by omega)]
  have z2' : b2 = 1 → b1 = 1 ∧ x1 = 18446744073709551615 := fun h => by
    rw [h2] at h
    split at h
    · omega
    · omega
  have z2'' : b2 = 0 → x1 + b1 ≤ 18446744073709551615 := fun h => by
    rw [h2] at h
    split at h
    · omega
    · omega
  have z3' : b3 = 1 → 18446744073709551615 < x2 + b2 := fun h => by
    rw [h3] at h
    split at h
    · assumption
    · omega
  have z3'' : b3 = 0 → x2 + b2 ≤ 18446744073709551615 := fun h => by
    rw [h3] at h
    split at h
    · omega
    · omega
  have z1' : b1 = 1 → 18446744073709551597 < x0 := fun h => by
    rw [h1] at h
    split at h
    · assumption
    · omega
  have z1'' : b1 = 0 → x0 ≤ 18446744073709551597 := fun h => by
    rw [h1] at h
    split at h
    · omega
    · omega
  clear h1 h2 h3
  have hx3 : x3 ≤ 9223372036854775807 := by omega
  have hb : b3 ≤ 9223372036854775807 - x3 := by omega
  -- the words of the difference
  have e0 : ∃ r0, (18446744073709551597 + 18446744073709551616 - x0) % 18446744073709551616 = r0 ∧ r0 + x0 = 18446744073709551597 + b1 * 18446744073709551616 ∧ r0 < 18446744073709551616 := ⟨_, rfl, by omega, by omega⟩
  have e1 : ∃ r1, (18446744073709551615 + 18446744073709551616 - x1 - b1) % 18446744073709551616 = r1 ∧ r1 + x1 + b1 = 18446744073709551615 + b2 * 18446744073709551616 ∧ r1 < 18446744073709551616 := ⟨_, rfl, by omega, by omega⟩
  have e2 : ∃ r2, (18446744073709551615 + 18446744073709551616 - x2 - b2) % 18446744073709551616 = r2 ∧ r2 + x2 + b2 = 18446744073709551615 + b3 * 18446744073709551616 ∧ r2 < 18446744073709551616 := ⟨_, rfl, by omega, by omega⟩
  obtain ⟨r0, q0, t0, u0⟩ := e0
  obtain ⟨r1, q1, t1, u1⟩ := e1
  obtain ⟨r2, q2, t2, u2⟩ := e2
  rw [q0, q1, q2]
  clear q0 q1 q2
  obtain ⟨r3, hr3⟩ : ∃ r3, r3 = 9223372036854775807 - x3 - b3 := ⟨_, rfl⟩
  have hu3 : r3 < 18446744073709551616 := by omega
  have hdiff : 57896044618658097711785492504343953926634992332820282019728792003956564819949 - (x0 + x1 * 18446744073709551616 + x2 * 340282366920938463463374607431768211456 + x3 * 6277101735386680763835789423207666416102355444464034512896) = v4 r0 r1 r2 r3 := by
    unfold v4
    omega
  rw [hdiff, ← hr3]
  obtain ⟨k0, k1, k2, k3⟩ := wd_v4 u0 u1 u2 hu3
  exact ⟨k0.symm, k1.symm, k2.symm, hx3, hb, k3.symm⟩
section
variable {self : Self} {nf : Nat} {m : Mem} {X Y : Nat}
theorem ng_body (hX : X ≤ P25519) (hse : SettleOk self) (hT : TabP m) :
    ∃ m', abody E self nf 32 [el X] m = some (el ((P25519 - X) % P25519), m') := by
  rw [abody_eqF (by kernel_rfl) Tryz.func32 bodyng (by kernel_rfl) (Nat.le_of_ble_eq_true rfl)]
  rw [show Tryz.f32.ntmps = 44 from rfl]
  have hp := p_lt
  have b1 := box48 (wd 0 X) (wd 1 X) (wd 2 X) (wd 3 X) m
  have tA : TabP (m ++ [Blk.row false 27 (c4 (wd 0 X) (wd 1 X) (wd 2 X) (wd 3 X))]) := hT.app
  generalize hA : m ++ [Blk.row false 27 (c4 (wd 0 X) (wd 1 X) (wd 2 X) (wd 3 X))] = A at b1 tA
  have lA : A.length = m.length + 1 := by rw [← hA]; simp
  have b3 := alloc48 A
  rw [lA] at b3
  have tC : TabP (A ++ [Blk.row false 27 (c4 0 0 0 0)]) := tA.app
  generalize hC : A ++ [Blk.row false 27 (c4 0 0 0 0)] = C at b3 tC
  have gx : C[m.length]? = some (.row false 27 (c4 (wd 0 X) (wd 1 X) (wd 2 X) (wd 3 X))) := by
    rw [← hC, List.getElem?_append_left (by omega), ← hA]; simp
  have gr : C[m.length + 1]? = some (.row false 27 (c4 0 0 0 0)) := by
    rw [← hC, List.getElem?_append_right (by omega), lA]; simp
  obtain ⟨x0, x1, x2, x3⟩ := cell4 gx
  have i0 := ix24 (p := 1) (k := 0) (by omega)
  have i1 := ix24 (p := 1) (k := 1) (by omega)
  have i2 := ix24 (p := 1) (k := 2) (by omega)
  have i3 := ix24 (p := 1) (k := 3) (by omega)
  simp only [Int.cast_ofNat_Int, Int.natCast_zero, Int.natCast_one] at i0 i1 i2 i3
  have hlk : look C 1 = some (true, 63, int64s primeW) := by unfold look; rw [tC]; rfl
  have t0 : cellAt C 1 0 = some (.int .u64 ((18446744073709551597 : Nat) : Int)) := by unfold cellAt; rw [hlk]; rfl
  have t1 : cellAt C 1 1 = some (.int .u64 ((18446744073709551615 : Nat) : Int)) := by unfold cellAt; rw [hlk]; rfl
  have t2 : cellAt C 1 2 = some (.int .u64 ((18446744073709551615 : Nat) : Int)) := by unfold cellAt; rw [hlk]; rfl
  have t3 : cellAt C 1 3 = some (.int .u64 ((9223372036854775807 : Nat) : Int)) := by unfold cellAt; rw [hlk]; rfl
  obtain ⟨c1, hc1⟩ : ∃ c1, c1 = if 18446744073709551597 < wd 0 X then 1 else 0 := ⟨_, rfl⟩
  obtain ⟨c2, hc2⟩ : ∃ c2, c2 = if 18446744073709551615 < wd 1 X + c1 then 1 else 0 := ⟨_, rfl⟩
  obtain ⟨c3, hc3⟩ : ∃ c3, c3 = if 18446744073709551615 < wd 2 X + c2 then 1 else 0 := ⟨_, rfl⟩
  obtain ⟨a0, a1, a2, a3, a4, a5⟩ := neg_ok hX hc1 hc2 hc3
  have l1 : c1 ≤ 1 := by rw [hc1]; exact ite_le _
  have l2 : c2 ≤ 1 := by rw [hc2]; exact ite_le _
  have s1 := subN (x := 9223372036854775807) (y := wd 3 X) a3 (by decide)
  have s2 := subN (x := 9223372036854775807 - wd 3 X) (y := c3) a4 (by omega)
  have cs := hse (wd 0 (P25519 - X)) (wd 1 (P25519 - X)) (wd 2 (P25519 - X)) (wd 3 (P25519 - X)) 0 (wd_lt _ _) (wd_lt _ _) (wd_lt _ _) (wd_lt _ _) (by decide)
  rw [v4_wd (by omega), Nat.zero_mul, Nat.add_zero, ← a0, ← a1, ← a2, ← a5, show (((0 : Nat)) : Int) = 0 from rfl] at cs
  clear a0 a1 a2 a5
  obtain ⟨R, hR⟩ : ∃ R, R = (P25519 - X) % P25519 := ⟨_, rfl⟩
  rw [← hR] at cs ⊢
  have st2 := store48 (a := wd 0 R) (b := wd 1 R) (c := wd 2 R) (d := wd 3 R) gr rfl
  have ld2 := load48 (m := C.set (m.length + 1) (.row false 27 (c4 (wd 0 R) (wd 1 R) (wd 2 R) (wd 3 R)))) (p := m.length + 1) (a := wd 0 R) (b := wd 1 R) (c := wd 2 R) (d := wd 3 R) (by rw [List.getElem?_set_self (lt_of_at gr)])
  unfold Ans at cs
  rw [el_st X, el_st R]
  rw [el_st R] at cs
  have o1 := fun M => sub64O 18446744073709551597 (wd 0 X) M
  have o2 := fun M => sub64C 18446744073709551615 (wd 1 X) c1 M
  have o3 := fun M => sub64C 18446744073709551615 (wd 2 X) c2 M
  rw [← hc1] at o1
  rw [← hc2] at o2
  rw [← hc3] at o3
  clear hR hse hC hA gx gr hc1 hc2 hc3 hX
  generalize wd 0 R = R0 at *
  generalize wd 1 R = R1 at *
  generalize wd 2 R = R2 at *
  generalize wd 3 R = R3 at *
  generalize wd 0 X = X0 at *
  generalize wd 1 X = X1 at *
  generalize wd 2 X = X2 at *
  generalize wd 3 X = X3 at *
  simp only [eng_0, eng_1, eng_2, eng_3, eng_4, lng_0, lng_1, lng_2, lng_3, lng_4, agd_none, gdAt, gdV_bool, gdV_undef, Tryz.f32, List.append_eq, List.cons_append, List.nil_append, apure_call1, apure_call2, apure_call3, bft, btf, acodeN, List.getElem?_toArray, List.getElem?_cons_zero, List.getElem?_cons_succ, aopsN, adrawT, cls, astep, aop, afloat, ev, nth_lst, get_lst, aput, setAt_lst, upd_at, init_zero, init_succ, init_nil, Nat.reduceLT, Nat.reduceEqDiff, reduceIte, abuiltin, alen, Option.map_some, Option.map_none, orElse_some, apure_add, apure_eqlV, eqlVal_str, eqlVal_bool, eqlVal_ptr, eqlVal_slice, eqlVal_wide, eqlVal_int, allT, ↓aop_eqlV, apure_neq, List.map_cons, List.map_nil, List.all_cons, List.all_nil, lit2, lit1, lit0, List.isEmpty_nil, bls, Bool.false_eq_true, if_true, if_false, List.length_map, beq_self_eq_true, uns, b1, b3, fa48_0, fa48_1, fa48_2, fa48_3, load22, x0, x1, x2, x3, i0, i1, i2, i3, t0, t1, t2, t3, callSub, extSub, o1, o2, o3, l1, l2, ex0, ex1, s1, s2, callSe, cs, st2, ld2, finish, ares, aresL, ares1]
  exact ⟨_, rfl⟩
theorem callNeg1 : callableB E.P 51 = true := by kernel_rfl
theorem callNeg : callableB E.P 32 = true := by kernel_rfl
def absF (X : Nat) : Nat := if X % 2 = 1 then (P25519 - X) % P25519 else X
theorem ab_body (hn : Ans self 51 [el X] (.bool (decide (X % 2 = 1)))) (hng : AnsT self 32 [el X] (el ((P25519 - X) % P25519))) (hT : TabP m) :
    ∃ m', abody E self nf 31 [el X] m = some (el (absF X), m') := by
  rw [abody_eqF (by kernel_rfl) Tryz.func31 bodyab (by kernel_rfl) (Nat.le_of_ble_eq_true rfl)]
  rw [show Tryz.f31.ntmps = 8 from rfl]
  have b1 := box48 (wd 0 X) (wd 1 X) (wd 2 X) (wd 3 X) m
  have tA : TabP (m ++ [Blk.row false 27 (c4 (wd 0 X) (wd 1 X) (wd 2 X) (wd 3 X))]) := hT.app
  generalize hA : m ++ [Blk.row false 27 (c4 (wd 0 X) (wd 1 X) (wd 2 X) (wd 3 X))] = A at b1 tA
  have lA : A.length = m.length + 1 := by rw [← hA]; simp
  have b3 := alloc48 A
  rw [lA] at b3
  have tC : TabP (A ++ [Blk.row false 27 (c4 0 0 0 0)]) := tA.app
  generalize hC : A ++ [Blk.row false 27 (c4 0 0 0 0)] = C at b3 tC
  have gx : C[m.length]? = some (.row false 27 (c4 (wd 0 X) (wd 1 X) (wd 2 X) (wd 3 X))) := by
    rw [← hC, List.getElem?_append_left (by omega), ← hA]; simp
  have gr : C[m.length + 1]? = some (.row false 27 (c4 0 0 0 0)) := by
    rw [← hC, List.getElem?_append_right (by omega), lA]; simp
  have lx := load48 gx
  rw [← el_st] at b1 lx
  have st : ∀ Y, astore E.P 27 (.pointer (some ⟨m.length + 1, 0, none⟩)) (el Y) C = some (C.set (m.length + 1) (.row false 27 (c4 (wd 0 Y) (wd 1 Y) (wd 2 Y) (wd 3 Y)))) := fun Y => store48 gr rfl
  have ld : ∀ Y, aload E.P 27 (.pointer (some ⟨m.length + 1, 0, none⟩)) (C.set (m.length + 1) (.row false 27 (c4 (wd 0 Y) (wd 1 Y) (wd 2 Y) (wd 3 Y)))) = some (el Y) := fun Y => load48 (by rw [List.getElem?_set_self (lt_of_at gr)])
  have c1 := hng C tC
  unfold Ans at hn
  unfold absF
  by_cases h : X % 2 = 1
  · rw [decide_eq_true h] at hn
    rw [if_pos h]
    simp only [eab_0, eab_1, eab_2, eab_3, lab_0, lab_1, lab_2, lab_3, agd_none, gdAt, gdV_bool, gdV_undef, Tryz.f31, List.append_eq, List.cons_append, List.nil_append, apure_call1, apure_call2, apure_call3, bft, btf, acodeN, List.getElem?_toArray, List.getElem?_cons_zero, List.getElem?_cons_succ, aopsN, adrawT, cls, astep, aop, afloat, ev, nth_lst, get_lst, aput, setAt_lst, upd_at, init_zero, init_succ, init_nil, Nat.reduceLT, Nat.reduceEqDiff, reduceIte, abuiltin, alen, Option.map_some, Option.map_none, orElse_some, apure_add, apure_eqlV, eqlVal_str, eqlVal_bool, eqlVal_ptr, eqlVal_slice, eqlVal_wide, eqlVal_int, allT, ↓aop_eqlV, apure_neq, List.map_cons, List.map_nil, List.all_cons, List.all_nil, lit2, lit1, lit0, List.isEmpty_nil, bls, Bool.false_eq_true, if_true, if_false, List.length_map, beq_self_eq_true, uns, b1, b3, lx, callNeg1, hn, callNeg, c1, st, ld, finish, ares, aresL, ares1]
    exact ⟨_, rfl⟩
  · rw [decide_eq_false h] at hn
    rw [if_neg h]
    simp only [eab_0, eab_1, eab_2, eab_3, lab_0, lab_1, lab_2, lab_3, agd_none, gdAt, gdV_bool, gdV_undef, Tryz.f31, List.append_eq, List.cons_append, List.nil_append, apure_call1, apure_call2, apure_call3, bft, btf, acodeN, List.getElem?_toArray, List.getElem?_cons_zero, List.getElem?_cons_succ, aopsN, adrawT, cls, astep, aop, afloat, ev, nth_lst, get_lst, aput, setAt_lst, upd_at, init_zero, init_succ, init_nil, Nat.reduceLT, Nat.reduceEqDiff, reduceIte, abuiltin, alen, Option.map_some, Option.map_none, orElse_some, apure_add, apure_eqlV, eqlVal_str, eqlVal_bool, eqlVal_ptr, eqlVal_slice, eqlVal_wide, eqlVal_int, allT, ↓aop_eqlV, apure_neq, List.map_cons, List.map_nil, List.all_cons, List.all_nil, lit2, lit1, lit0, List.isEmpty_nil, bls, Bool.false_eq_true, if_true, if_false, List.length_map, beq_self_eq_true, uns, b1, b3, lx, callNeg1, hn, callNeg, c1, st, ld, finish, ares, aresL, ares1]
    exact ⟨_, rfl⟩
theorem wrNeg : E.wr 32 = false := by kernel_rfl
theorem addr48 : addrT E.P 4 27 = false := by kernel_rfl
end
end Go.Am.Seat
