/-
  Texts of my own, put together: D1, G1, G2, G3, G4, G5.
-/
import Derived.Test.YtmgknkjdbpgjmaaGreatDoorGrFieldRoots16
set_option linter.unusedSimpArgs false
set_option linter.unusedVariables false
set_option maxRecDepth 100000
namespace Go.Am.Seat
open Go.Proofs Go.Am
theorem digAt (j : Nat) : ∀ x : Nat, (dig x).getD j 0 = x / 256 ^ j % 256 := by
  induction j with
  | zero =>
    intro x
    by_cases h : x = 0
    · subst h; rw [dig_zero]; rfl
    · rw [dig_pos h, Nat.pow_zero, Nat.div_one]; rfl
  | succ j ih =>
    intro x
    by_cases h : x = 0
    · subst h; rw [dig_zero, Nat.zero_div]; rfl
    · rw [dig_pos h, List.getD_cons_succ, ih, Nat.div_div_eq_div_mul, Nat.pow_succ, Nat.mul_comm]
theorem low_bit (a r : Nat) (hr : r < 8) : a % 256 / 2 ^ r % 2 = a / 2 ^ r % 2 := by
  rcases (by omega : r = 0 ∨ r = 1 ∨ r = 2 ∨ r = 3 ∨ r = 4 ∨ r = 5 ∨ r = 6 ∨ r = 7) with rfl | rfl | rfl | rfl | rfl | rfl | rfl | rfl <;> omega
theorem p256 (j : Nat) : 256 ^ j = 2 ^ (8 * j) := by rw [Nat.pow_mul]
theorem dig_bit (x i : Nat) : (dig x).getD (i / 8) 0 / 2 ^ (i % 8) % 2 = x / 2 ^ i % 2 := by
  rw [digAt, low_bit _ _ (by omega), Nat.div_div_eq_div_mul, p256, ← Nat.pow_add, show 8 * (i / 8) + i % 8 = i by omega]
theorem bit_over {x i : Nat} (h : (dig x).length ≤ i / 8) : x / 2 ^ i % 2 = 0 := by
  have h1 := lt_dig_len x
  have h2 : x < 2 ^ i := Nat.lt_of_lt_of_le h1 (by rw [p256]; exact Nat.pow_le_pow_right (by omega) (by omega))
  rw [Nat.div_eq_of_lt h2]
section
variable {self : Self} {nf : Nat} {m : Mem}
theorem rbitA_body {v : Value} {x i : Nat} (hA : NumA m v (dig x)) (hi : i < 100000) (hf : 10 < nf) :
    abody E self nf 36 [v, .int .i64 (i : Nat)] m = some (.int .i64 ((x / 2 ^ i % 2 : Nat) : Int), m) := by
  rw [abody_eqF (by kernel_rfl) Tryz.func36 bodyrbt (by kernel_rfl) (Nat.le_of_ble_eq_true rfl)]
  rw [show Tryz.f36.ntmps = 31 from rfl]
  have hlen := hA.1
  have d1 : decide (((i : Nat) : Int) < 0) = false := decide_eq_false (by omega)
  have e1 : wrapF .i64 (((i : Nat) : Int).tdiv 8) = ((i / 8 : Nat) : Int) := by rw [Int.tdiv_eq_ediv_of_nonneg (by omega), wrap_i64 (by omega) (by omega)]; omega
  by_cases h2 : (dig x).length ≤ i / 8
  · have d2 : decide (((i / 8 : Nat) : Int) ≥ (((dig x).length : Nat) : Int)) = true := decide_eq_true (by omega)
    rw [bit_over h2]
    simp only [erbt_0, erbt_1, erbt_2, erbt_3, erbt_4, erbt_5, erbt_6, erbt_7, erbt_8, lrbt_0, lrbt_1, lrbt_2, lrbt_3, lrbt_4, lrbt_5, lrbt_6, lrbt_7, lrbt_8, grbt_1_2, agd_none, gdAt, gdV_bool, gdV_undef, Tryz.f36, List.append_eq, List.cons_append, List.nil_append, apure_call1, apure_call2, apure_call3, bft, btf, acodeN, List.getElem?_toArray, List.getElem?_cons_zero, List.getElem?_cons_succ, aopsN, adrawT, cls, astep, aop, afloat, ev, nth_lst, get_lst, aput, setAt_lst, upd_at, init_zero, init_succ, init_nil, Nat.reduceLT, Nat.reduceEqDiff, reduceIte, len_N, abuiltin_app, Option.map_some, Option.map_none, orElse_some, apure_add, apure_eqlV, eqlVal_str, eqlVal_bool, eqlVal_ptr, eqlVal_slice, eqlVal_wide, eqlVal_int, allT, ↓aop_eqlV, apure_neq, List.map_cons, List.map_nil, List.all_cons, List.all_nil, lit2, lit1, lit0, List.isEmpty_nil, bls, Bool.false_eq_true, if_true, if_false, List.length_map, beq_self_eq_true, uns, lss64, geq64, quo8, e1, und27, d1, d2, hlen, finish, ares, aresL, ares1]
    rfl
  · have d2 : decide (((i / 8 : Nat) : Int) ≥ (((dig x).length : Nat) : Int)) = false := decide_eq_false (by omega)
    have hlt : i / 8 < (dig x).length := by omega
    have hg : (dig x)[i / 8]? = some ((dig x).getD (i / 8) 0) := by rw [List.getD_eq_getElem?_getD, List.getElem?_eq_getElem hlt]; rfl
    have hx9 : (dig x).getD (i / 8) 0 < 256 := dig_lt x _ (List.mem_of_getElem? hg)
    obtain ⟨b, o, i1, c1⟩ := hA.2 _ _ hg
    have hrm : ((i : Nat) : Int).tmod 8 = ((i % 8 : Nat) : Int) := by rw [Int.tmod_eq_emod_of_nonneg (by omega)]; omega
    rw [← dig_bit]
    generalize (dig x).getD (i / 8) 0 = d at *
    have hloop := aloop_inv (body := acodeN E self nf lprbt_0) (N := i % 8)
      (I := fun k T m' => m' = m ∧ ∃ G, T = lst G 31 ∧ G 1 = .int .i64 ((i : Nat) : Int) ∧ G 5 = .int .i64 ((d / 2 ^ k : Nat) : Int) ∧ G 6 = .int .i64 (k : Nat))
      (Q := fun e T m' => e = .exit 0 ∧ m' = m ∧ ∃ G, T = lst G 31 ∧ G 5 = .int .i64 ((d / 2 ^ (i % 8) : Nat) : Int)) (fun k T m' hk hI => by
        obtain ⟨rfl, G, rfl, g1, g5, g6⟩ := hI
        by_cases hlt : k < i % 8
        · left
          obtain ⟨F', hr, f1, f5, f6⟩ := iterRbt (self := self) (nf := nf) (m := m') g1 g5 g6 hrm hlt (by omega) (Nat.lt_of_le_of_lt (Nat.div_le_self _ _) (by omega))
          refine ⟨_, _, hr, hlt, rfl, F', rfl, by rw [f1, g1], ?_, f6⟩
          rw [f5, Nat.div_div_eq_div_mul, Nat.pow_succ]
        · right
          have hke : k = i % 8 := by omega
          subst hke
          obtain ⟨F', hr, f5⟩ := lastRbt (self := self) (nf := nf) (m := m') g1 g6 hrm (Nat.le_refl _)
          exact ⟨_, _, _, hr, by simp, rfl, rfl, F', rfl, by rw [f5, g5]⟩)
    have e9 : (((d / 2 ^ (i % 8) : Nat) : Int)).tmod 2 = ((d / 2 ^ (i % 8) % 2 : Nat) : Int) := by rw [Int.tmod_eq_emod_of_nonneg (Int.natCast_nonneg _)]; rfl
    obtain ⟨e, T', m', hr, rfl, rfl, G, rfl, g5⟩ := hloop (i % 8) 0 nf (lst (upd (upd (upd (upd (upd (upd (upd (upd (upd (upd (upd (upd (upd (upd (upd (upd (upd (init [v, .int .i64 ((i : Nat) : Int)]) 4 (.int .i64 0)) 7 (.int .i64 ((i : Nat) : Int))) 8 (.bool false)) 9 (.bool false)) 10 (.int .i64 ((i : Nat) : Int))) 11 (.int .i64 ((i / 8 : Nat) : Int))) 12 v) 13 (.int .i64 (((dig x).length : Nat) : Int))) 14 (.bool false)) 15 (.bool false)) 16 v) 17 (.int .i64 ((i : Nat) : Int))) 18 (.int .i64 ((i / 8 : Nat) : Int))) 19 (.pointer (some ⟨b, o, none⟩))) 20 (.int .i64 ((d : Nat) : Int))) 5 (.int .i64 ((d : Nat) : Int))) 6 (.int .i64 0)) 31) m (by omega) (by omega) ⟨rfl, _, rfl, rfl, by rw [Nat.pow_zero, Nat.div_one]; rfl, rfl⟩
    simp only [erbt_0, erbt_1, erbt_2, erbt_3, erbt_4, erbt_5, erbt_6, erbt_7, erbt_8, lrbt_0, lrbt_1, lrbt_2, lrbt_3, lrbt_4, lrbt_5, lrbt_6, lrbt_7, lrbt_8, grbt_1_2, agd_none, gdAt, gdV_bool, gdV_undef, Tryz.f36, List.append_eq, List.cons_append, List.nil_append, apure_call1, apure_call2, apure_call3, bft, btf, acodeN, List.getElem?_toArray, List.getElem?_cons_zero, List.getElem?_cons_succ, aopsN, adrawT, cls, astep, aop, afloat, ev, nth_lst, get_lst, aput, setAt_lst, upd_at, init_zero, init_succ, init_nil, Nat.reduceLT, Nat.reduceEqDiff, reduceIte, len_N, abuiltin_app, Option.map_some, Option.map_none, orElse_some, apure_add, apure_eqlV, eqlVal_str, eqlVal_bool, eqlVal_ptr, eqlVal_slice, eqlVal_wide, eqlVal_int, allT, ↓aop_eqlV, apure_neq, List.map_cons, List.map_nil, List.all_cons, List.all_nil, lit2, lit1, lit0, List.isEmpty_nil, bls, Bool.false_eq_true, if_true, if_false, List.length_map, beq_self_eq_true, uns, lss64, geq64, quo8, e1, und27, d1, d2, hlen, i1, load3, c1, hr, g5, rem2, e9, finish, ares, aresL, ares1]
end
def CBit (self : Self) : Prop := ∀ (m : Mem) (a : Value) (x i : Nat), NumA m a (dig x) → i < 100000 → ainv E self 36 [a, .int .i64 (i : Nat)] m = some (.int .i64 ((x / 2 ^ i % 2 : Nat) : Int), m)
theorem cbit {R : Nat → Self} {K : List Fact} (hR : Runs R K) {n : Nat} (hK : hasF K 36 = false) (hn : 1000 ≤ n) : CBit (R (n + 1)) := by
  intro m a x i ha hi
  by_cases hl : ([a, .int .i64 ((i : Nat) : Int)].all lit2) = true
  · have hl9 := hl
    simp only [List.all_cons, List.all_nil, Bool.and_true, Bool.and_eq_true] at hl9
    obtain ⟨rfl, h1⟩ := ha.lit hl9.1
    have hb := rbitA_body (self := (R n)) (nf := n + 1) (m := (m.take E.G).map onlyTab) (v := .slice none 0 0) (x := x) (i := i) (by rw [h1]; exact NumA.nil _) hi (by omega)
    exact ainv_lit hl (by kernel_rfl) (hR.b hK hb) rfl
  · have hb := rbitA_body (self := (R n)) (nf := n + 1) ha.sealed hi (by omega)
    exact ainv_look (by simpa using hl) (by kernel_rfl) (hR.b hK hb) rfl
end Go.Am.Seat
namespace Go.Am.Seat
open Go.Proofs Go.Am
noncomputable def rrred_0 : Array Oper := match Tryz.f28.body with
  | some (.seq (.region _ o _) _) => o
  | _ => #[]
noncomputable def lrred_0 : List Oper := match Tryz.f28.body with
  | some (.seq (.region _ o _) _) => o.toList
  | _ => []
theorem erred_0 : rrred_0.toList = lrred_0 := rfl
noncomputable def lprred_0 : Code := match Tryz.f28.body with
  | some (.seq _ (.seq (.block _ (.loop c)) _)) => c
  | _ => .skip
noncomputable def rrred_1 : Array Oper := match Tryz.f28.body with
  | some (.seq _ (.seq (.block _ (.loop (.seq (.seq (.region _ o _) _) _))) _)) => o
  | _ => #[]
noncomputable def lrred_1 : List Oper := match Tryz.f28.body with
  | some (.seq _ (.seq (.block _ (.loop (.seq (.seq (.region _ o _) _) _))) _)) => o.toList
  | _ => []
theorem erred_1 : rrred_1.toList = lrred_1 := rfl
noncomputable def rrred_2 : Array Oper := match Tryz.f28.body with
  | some (.seq _ (.seq (.block _ (.loop (.seq _ (.block _ (.region _ o _))))) _)) => o
  | _ => #[]
noncomputable def lrred_2 : List Oper := match Tryz.f28.body with
  | some (.seq _ (.seq (.block _ (.loop (.seq _ (.block _ (.region _ o _))))) _)) => o.toList
  | _ => []
theorem erred_2 : rrred_2.toList = lrred_2 := rfl
theorem lprred_0_eq : lprred_0 = (.seq (.seq (.region 1 rrred_1 false) (.cond (.tmp 7) .skip (.exit 0))) (.block 1 (.region 2 rrred_2 true))) := rfl
noncomputable def rrred_3 : Array Oper := match Tryz.f28.body with
  | some (.seq _ (.seq _ (.seq (.region _ o _) _))) => o
  | _ => #[]
noncomputable def lrred_3 : List Oper := match Tryz.f28.body with
  | some (.seq _ (.seq _ (.seq (.region _ o _) _))) => o.toList
  | _ => []
theorem erred_3 : rrred_3.toList = lrred_3 := rfl
noncomputable def lprred_1 : Code := match Tryz.f28.body with
  | some (.seq _ (.seq _ (.seq _ (.seq (.block _ (.loop c)) _)))) => c
  | _ => .skip
noncomputable def rrred_4 : Array Oper := match Tryz.f28.body with
  | some (.seq _ (.seq _ (.seq _ (.seq (.block _ (.loop (.seq (.seq (.region _ o _) _) _))) _)))) => o
  | _ => #[]
noncomputable def lrred_4 : List Oper := match Tryz.f28.body with
  | some (.seq _ (.seq _ (.seq _ (.seq (.block _ (.loop (.seq (.seq (.region _ o _) _) _))) _)))) => o.toList
  | _ => []
theorem erred_4 : rrred_4.toList = lrred_4 := rfl
theorem grred_4_2 {T : List Value} {dd : Option Tmp} {op : Op} {ty : TypeId} {pos : String} {af : Array Edge} {want : Bool} : agd rrred_4 T { dst := dd, op := op, type := ty, pos := pos, after := af, guard := some (2, want) } = gdAt T 19 want := agd_at (by kernel_rfl)
noncomputable def rrred_5 : Array Oper := match Tryz.f28.body with
  | some (.seq _ (.seq _ (.seq _ (.seq (.block _ (.loop (.seq _ (.block _ (.region _ o _))))) _)))) => o
  | _ => #[]
noncomputable def lrred_5 : List Oper := match Tryz.f28.body with
  | some (.seq _ (.seq _ (.seq _ (.seq (.block _ (.loop (.seq _ (.block _ (.region _ o _))))) _)))) => o.toList
  | _ => []
theorem erred_5 : rrred_5.toList = lrred_5 := rfl
theorem lprred_1_eq : lprred_1 = (.seq (.seq (.region 4 rrred_4 false) (.cond (.tmp 26) .skip (.exit 2))) (.block 3 (.region 5 rrred_5 false))) := rfl
noncomputable def rrred_6 : Array Oper := match Tryz.f28.body with
  | some (.seq _ (.seq _ (.seq _ (.seq _ (.seq (.region _ o _) _))))) => o
  | _ => #[]
noncomputable def lrred_6 : List Oper := match Tryz.f28.body with
  | some (.seq _ (.seq _ (.seq _ (.seq _ (.seq (.region _ o _) _))))) => o.toList
  | _ => []
theorem erred_6 : rrred_6.toList = lrred_6 := rfl
noncomputable def rrred_7 : Array Oper := match Tryz.f28.body with
  | some (.seq _ (.seq _ (.seq _ (.seq _ (.seq _ (.seq (.region _ o _) _)))))) => o
  | _ => #[]
noncomputable def lrred_7 : List Oper := match Tryz.f28.body with
  | some (.seq _ (.seq _ (.seq _ (.seq _ (.seq _ (.seq (.region _ o _) _)))))) => o.toList
  | _ => []
theorem erred_7 : rrred_7.toList = lrred_7 := rfl
noncomputable def lprred_2 : Code := match Tryz.f28.body with
  | some (.seq _ (.seq _ (.seq _ (.seq _ (.seq _ (.seq _ (.seq (.block _ (.loop c)) _))))))) => c
  | _ => .skip
noncomputable def rrred_8 : Array Oper := match Tryz.f28.body with
  | some (.seq _ (.seq _ (.seq _ (.seq _ (.seq _ (.seq _ (.seq (.block _ (.loop (.seq (.seq (.region _ o _) _) _))) _))))))) => o
  | _ => #[]
noncomputable def lrred_8 : List Oper := match Tryz.f28.body with
  | some (.seq _ (.seq _ (.seq _ (.seq _ (.seq _ (.seq _ (.seq (.block _ (.loop (.seq (.seq (.region _ o _) _) _))) _))))))) => o.toList
  | _ => []
theorem erred_8 : rrred_8.toList = lrred_8 := rfl
noncomputable def rrred_9 : Array Oper := match Tryz.f28.body with
  | some (.seq _ (.seq _ (.seq _ (.seq _ (.seq _ (.seq _ (.seq (.block _ (.loop (.seq _ (.block _ (.region _ o _))))) _))))))) => o
  | _ => #[]
noncomputable def lrred_9 : List Oper := match Tryz.f28.body with
  | some (.seq _ (.seq _ (.seq _ (.seq _ (.seq _ (.seq _ (.seq (.block _ (.loop (.seq _ (.block _ (.region _ o _))))) _))))))) => o.toList
  | _ => []
theorem erred_9 : rrred_9.toList = lrred_9 := rfl
theorem lprred_2_eq : lprred_2 = (.seq (.seq (.region 8 rrred_8 false) (.cond (.tmp 36) .skip (.exit 4))) (.block 5 (.region 9 rrred_9 false))) := rfl
noncomputable def rrred_10 : Array Oper := match Tryz.f28.body with
  | some (.seq _ (.seq _ (.seq _ (.seq _ (.seq _ (.seq _ (.seq _ (.seq (.region _ o _) _)))))))) => o
  | _ => #[]
noncomputable def lrred_10 : List Oper := match Tryz.f28.body with
  | some (.seq _ (.seq _ (.seq _ (.seq _ (.seq _ (.seq _ (.seq _ (.seq (.region _ o _) _)))))))) => o.toList
  | _ => []
theorem erred_10 : rrred_10.toList = lrred_10 := rfl
theorem bodyrred : Tryz.f28.body = some (.seq (.region 0 rrred_0 false) (.seq (.block 0 (.loop lprred_0)) (.seq (.region 3 rrred_3 false) (.seq (.block 2 (.loop lprred_1)) (.seq (.region 6 rrred_6 false) (.seq (.region 7 rrred_7 false) (.seq (.block 4 (.loop lprred_2)) (.seq (.region 10 rrred_10 false) .ret)))))))) := rfl
-- ntmps 41
theorem sr2r : E.sr 2 rrred_2 = true := by kernel_rfl
theorem mk2r : E.mkr 2 rrred_2 = true := by kernel_rfl
theorem dep2r : depB E.P E.wr rrred_2 = true := by kernel_rfl
theorem ch54r : chainB rrred_2 4 5 4 = true := by kernel_rfl
theorem ch65r : chainB rrred_2 4 6 5 = true := by kernel_rfl
theorem lowF : ∀ p : Nat → Bool, ∀ g, belowP p 4 (.func (.func g) #[] #[]) = true := fun _ _ => rfl
theorem acollAt_old {m1 : Mem} {n N b o k c : Nat} (hb : b < n) : acollAt n N (.slice (some ⟨b, o, none⟩) k c) m1 = some (.slice (some ⟨b, o, none⟩) k c, []) := by
  unfold acollAt
  rw [if_neg (by simp [lit2, lit1, lit0])]
  have h1 : idsL n (partsOf (.slice (some ⟨b, o, none⟩) k c)) [] = [] := by
    simp [partsOf, idsL, idOf, addIds, hb]
  have h2 : closeIds n m1 2 [] = [] := by
    simp only [closeIds, List.foldl_nil]
  simp only [h1, h2]
  rw [if_pos (by simp [nodupB])]
  have h3 : rid n N [] b = some b := by
    unfold rid
    rw [if_pos hb]
  simp only [renB, ren3, ren2, ren1, h3]
theorem k_old {q : List Value → List Blk → Prop} {self : Self} {ops : Array Oper} {m : Mem} {o : Oper} {l : List Oper} {i : Nat} {T : List Value} {nb : List Blk} {ow : List Nat} (c : Nat) {b off k d : Nat} {M' : Mem} (us : US nb ow) (hg : agd ops T o = some true) (hok : okOp E.P o.op = true) (hc : cls E.P E.wr o = c + 1) (hp : opsP (pW ops i m.length ow) T o = true)
    (hs : astep E self T ((m ++ maskN ops i nb ow).map Am.sealed) o = some (.slice (some ⟨b, off, none⟩) k d, M')) (hb : b < m.length) (h : Ends2 q (amkUT E self ops m l (i + 1) (aput T o.dst (.slice (some ⟨b, off, none⟩) k d)) nb ow)) : Ends2 q (amkUT E self ops m (o :: l) i T nb ow) := by
  rw [u_make hg hok hc hp (us.rows _) hs (acollAt_old (by omega)) rfl]
  simpa using h
theorem sl3_27 {b n c : Nat} (hc : 32 ≤ c) : aslice3 E.P 30 (.slice (some ⟨b, 0, none⟩) n c) none (some (.int .i64 32)) (.int .i64 32) = some (.slice (some ⟨b, 0, none⟩) 32 32) := by
  obtain ⟨i, h1, h2⟩ := info3
  unfold aslice3
  simp only [und27, h1]
  unfold abound
  simp only
  rw [if_pos (by omega)]
  simp
theorem slLo_27 {m : Mem} {b n c : Nat} {ro : Bool} {cs : List Value} (h : m[b]? = some (.row ro 3 cs)) (hn : 32 < n) (hc : n ≤ c) : aslice E.P 30 (.slice (some ⟨b, 0, none⟩) n c) (some (.int .i64 32)) none m = some (.slice (some ⟨b, 32, none⟩) (n - 32) (c - 32)) := by
  obtain ⟨i, h1, h2⟩ := info3
  unfold aslice
  simp only [und27, h1, lookRow h]
  unfold abounds abound
  simp only
  rw [if_pos (by omega)]
  simp only
  rw [if_neg (by simp [h2]; omega)]
  simp [h2]
theorem slHi_27 {m : Mem} {b n c : Nat} {ro : Bool} {cs : List Value} (h : m[b]? = some (.row ro 3 cs)) (hc0 : 0 < c) (hc : n ≤ c) : aslice E.P 30 (.slice (some ⟨b, 0, none⟩) n c) none (some (.int .i64 (n : Nat))) m = some (.slice (some ⟨b, 0, none⟩) n c) := by
  obtain ⟨i, h1, h2⟩ := info3
  unfold aslice
  simp only [und27, h1, lookRow h]
  unfold abounds abound
  simp only
  rw [if_pos (by omega)]
  simp only
  rw [if_neg (by simp [h2]; omega)]
  simp
theorem ix27o {b o L c j : Nat} (h : j < L) : aindexAddr E.P 30 (.slice (some ⟨b, o, none⟩) L c) (.int .i64 (j : Nat)) = some (.pointer (some ⟨b, o + j, none⟩)) := by
  obtain ⟨i, h1, h2⟩ := info3
  unfold aindexAddr
  simp only [und27, h1]
  rw [if_pos (by omega)]
  simp [h2]
theorem NumA.rowAt {m : Mem} {b o n c : Nat} {ro : Bool} {L : List Nat} (h : m[b]? = some (.row ro 3 (cellsN L))) (hn : o + n ≤ L.length) : NumA m (.slice (some ⟨b, o, none⟩) n c) ((L.drop o).take n) := by
  refine ⟨by simp only [lenV, List.length_take, List.length_drop, Nat.min_eq_left (show n ≤ L.length - o by omega)], fun i x hx => ⟨b, o + i, ?_, ?_⟩⟩
  · have hi : i < n := by
      have := (List.getElem?_eq_some_iff.1 hx).1
      rw [List.length_take] at this
      omega
    exact ix27o hi
  · have hi : i < n := by
      have := (List.getElem?_eq_some_iff.1 hx).1
      rw [List.length_take] at this
      omega
    rw [List.getElem?_take, if_pos hi, List.getElem?_drop] at hx
    rw [cellAt_row h, cellsN_get hx]
theorem dig38 : dig 38 = [38] := by rw [dig_pos (by omega)]; rw [show 38 / 256 = 0 from rfl, dig_zero]
def NumW (m : Mem) (b : Nat) (ro : Bool) (L : List Nat) (n x : Nat) : Prop := n ≤ L.length ∧ L.take n = dig x ∧ m[b]? = some (.row ro 3 (cellsN L)) ∧ L ≠ []
theorem NumW.parts {m : Mem} {b n x : Nat} {ro : Bool} {L : List Nat} (h : NumW m b ro L n x) (hn : 32 < n) : NumA m (.slice (some ⟨b, 0, none⟩) 32 32) ((dig x).take 32) ∧ NumA m (.slice (some ⟨b, 32, none⟩) (n - 32) (L.length - 32)) (dig (x / 256 ^ 32)) ∧ val ((dig x).take 32) = x % 256 ^ 32 := by
  obtain ⟨h1, h2, h3, _⟩ := h
  have hl : (dig x).length = n := by rw [← h2, List.length_take, Nat.min_eq_left h1]
  refine ⟨?_, ?_, ?_⟩
  · have := NumA.row (n := 32) (c := 32) h3 (by omega)
    have e : L.take 32 = (dig x).take 32 := by rw [← h2, List.take_take, Nat.min_eq_left (by omega)]
    rw [e] at this
    exact this
  · have := NumA.rowAt (o := 32) (n := n - 32) (c := L.length - 32) h3 (by omega)
    have e : (L.drop 32).take (n - 32) = dig (x / 256 ^ 32) := by
      have e1 : (L.drop 32).take (n - 32) = (dig x).drop 32 := by rw [← h2, List.drop_take]
      rw [e1]
      have e2 := val_drop (dig_lt x) (k := 32) (by omega)
      rw [val_dig] at e2
      rw [← e2]
      refine (dig_val (fun y hy => dig_lt x y (List.mem_of_mem_drop hy)) ?_).symm
      right
      rcases dig_last x with h0 | ⟨z, hz, hz2⟩
      · rw [h0] at hl; simp at hl; omega
      · refine ⟨z, hz, ?_⟩
        rw [List.length_drop, List.getElem?_drop, show 32 + ((dig x).length - 32 - 1) = (dig x).length - 1 by omega]
        exact hz2
    rw [e] at this
    exact this
  · rw [val_take (dig_lt x), val_dig]
end Go.Am.Seat
namespace Go.Am.Seat
open Go.Proofs Go.Am
theorem red2 {self : Self} {m : Mem} {F : Nat → Value} {b n x : Nat} {ro : Bool} {L : List Nat} (cm : CMul self) (ca : CAddL self) (h0 : F 0 = .slice (some ⟨b, 0, none⟩) n L.length) (hN : NumW m b ro L n x) (hn : 32 < n) (hn9 : n ≤ 100) :
    ∃ F' nb, amk E self rrred_2 (lst F 41) m = some (lst F' 41, m ++ nb) ∧ NumB m.length (F' 0) (m ++ nb) (x % 256 ^ 32 + x / 256 ^ 32 * 38) := by
  suffices key : Ends2 (fun T nb => ∃ F', T = lst F' 41 ∧ NumB m.length (F' 0) (m ++ nb) (x % 256 ^ 32 + x / 256 ^ 32 * 38)) (amkUT E self rrred_2 m rrred_2.toList 0 (lst F 41) [] []) by
    obtain ⟨_, nb, h1, F', rfl, h3⟩ := key
    exact ⟨F', nb, amk_of dep2r h1, h3⟩
  have hb : b < m.length := (List.getElem?_eq_some_iff.1 hN.2.2.1).1
  have hnl : (dig x).length = n := by rw [← hN.2.1, List.length_take, Nat.min_eq_left hN.1]
  have hL := hN.1
  obtain ⟨p1, p2, p3⟩ := hN.parts hn
  have hrow : ∀ X : Mem, ((m ++ X).map Am.sealed)[b]? = some (.row true 3 (cellsN L)) := by
    intro X
    rw [List.getElem?_map, List.getElem?_append_left hb, hN.2.2.1]
    rfl
  have lowB : ∀ (ops : Array Oper) (i : Nat) (ow : List Nat) (o k c : Nat), belowP (pW ops i m.length ow) 4 (.slice (some ⟨b, o, none⟩) k c) = true := by
    intro ops i ow o k c
    show pW ops i m.length ow b = true
    unfold pW
    simp [hb]
  have onto : ∀ (v : Value) (l : List Nat) (X : Mem), NumA m v l → NumA ((m ++ X).map Am.sealed) v l := fun v l X h => (h.keep fun k hk => List.getElem?_append_left hk).sealed
  rw [erred_2]
  simp only [lrred_2, Tryz.f28]
  refine k_float (.slice (some ⟨b, 0, none⟩) n L.length) agd_none (by kernel_rfl) (by kernel_rfl) (by simp only [List.append_eq, List.cons_append, List.nil_append, apure_call1, apure_call2, apure_call3, bft, btf, acodeN, List.getElem?_toArray, List.getElem?_cons_zero, List.getElem?_cons_succ, aopsN, adrawT, cls, astep, aop, afloat, ev, nth_lst, get_lst, aput, setAt_lst, upd_at, init_zero, init_succ, init_nil, Nat.reduceLT, Nat.reduceEqDiff, reduceIte, len_N, abuiltin_app, Option.map_some, Option.map_none, orElse_some, apure_add, apure_eqlV, eqlVal_str, eqlVal_bool, eqlVal_ptr, eqlVal_slice, eqlVal_wide, eqlVal_int, allT, ↓aop_eqlV, apure_neq, List.map_cons, List.map_nil, List.all_cons, List.all_nil, lit2, lit1, lit0, List.isEmpty_nil, bls, Bool.false_eq_true, if_true, if_false, List.length_map, beq_self_eq_true, uns, h0]) ?_
  simp only [aput, setAt_lst, Nat.reduceLT, if_true, Nat.reduceAdd]
  refine k_old 0 US.nil agd_none (by kernel_rfl) (by kernel_rfl) (by simp only [opsP, Op.operands, Call.operands, List.toList_toArray, Array.toList_append, Option.toArray, List.cons_append, List.nil_append, List.append_nil, List.all_cons, List.all_nil, ev, nth_lst, upd_at, Nat.reduceEqDiff, reduceIte, Nat.reduceLT, if_true, Bool.and_self, Bool.and_true, lowF, lowB]; rfl) (b := b) (off := 0) (k := 32) (d := 32) (M' := (m ++ maskN rrred_2 1 [] []).map Am.sealed) (by simp only [List.append_eq, List.cons_append, List.nil_append, apure_call1, apure_call2, apure_call3, bft, btf, acodeN, List.getElem?_toArray, List.getElem?_cons_zero, List.getElem?_cons_succ, aopsN, adrawT, cls, astep, aop, afloat, ev, nth_lst, get_lst, aput, setAt_lst, upd_at, init_zero, init_succ, init_nil, Nat.reduceLT, Nat.reduceEqDiff, reduceIte, len_N, abuiltin_app, Option.map_some, Option.map_none, orElse_some, apure_add, apure_eqlV, eqlVal_str, eqlVal_bool, eqlVal_ptr, eqlVal_slice, eqlVal_wide, eqlVal_int, allT, ↓aop_eqlV, apure_neq, List.map_cons, List.map_nil, List.all_cons, List.all_nil, lit2, lit1, lit0, List.isEmpty_nil, bls, Bool.false_eq_true, if_true, if_false, List.length_map, beq_self_eq_true, uns, sl3_27 (show 32 ≤ L.length by omega)]) hb ?_
  simp only [aput, setAt_lst, Nat.reduceLT, if_true, Nat.reduceAdd]
  refine k_float (.slice (some ⟨b, 0, none⟩) n L.length) agd_none (by kernel_rfl) (by kernel_rfl) (by simp only [List.append_eq, List.cons_append, List.nil_append, apure_call1, apure_call2, apure_call3, bft, btf, acodeN, List.getElem?_toArray, List.getElem?_cons_zero, List.getElem?_cons_succ, aopsN, adrawT, cls, astep, aop, afloat, ev, nth_lst, get_lst, aput, setAt_lst, upd_at, init_zero, init_succ, init_nil, Nat.reduceLT, Nat.reduceEqDiff, reduceIte, len_N, abuiltin_app, Option.map_some, Option.map_none, orElse_some, apure_add, apure_eqlV, eqlVal_str, eqlVal_bool, eqlVal_ptr, eqlVal_slice, eqlVal_wide, eqlVal_int, allT, ↓aop_eqlV, apure_neq, List.map_cons, List.map_nil, List.all_cons, List.all_nil, lit2, lit1, lit0, List.isEmpty_nil, bls, Bool.false_eq_true, if_true, if_false, List.length_map, beq_self_eq_true, uns, h0]) ?_
  simp only [aput, setAt_lst, Nat.reduceLT, if_true, Nat.reduceAdd]
  refine k_old 0 US.nil agd_none (by kernel_rfl) (by kernel_rfl) (by simp only [opsP, Op.operands, Call.operands, List.toList_toArray, Array.toList_append, Option.toArray, List.cons_append, List.nil_append, List.append_nil, List.all_cons, List.all_nil, ev, nth_lst, upd_at, Nat.reduceEqDiff, reduceIte, Nat.reduceLT, if_true, Bool.and_self, Bool.and_true, lowF, lowB]; rfl) (b := b) (off := 32) (k := n - 32) (d := L.length - 32) (M' := (m ++ maskN rrred_2 3 [] []).map Am.sealed) (by simp only [List.append_eq, List.cons_append, List.nil_append, apure_call1, apure_call2, apure_call3, bft, btf, acodeN, List.getElem?_toArray, List.getElem?_cons_zero, List.getElem?_cons_succ, aopsN, adrawT, cls, astep, aop, afloat, ev, nth_lst, get_lst, aput, setAt_lst, upd_at, init_zero, init_succ, init_nil, Nat.reduceLT, Nat.reduceEqDiff, reduceIte, len_N, abuiltin_app, Option.map_some, Option.map_none, orElse_some, apure_add, apure_eqlV, eqlVal_str, eqlVal_bool, eqlVal_ptr, eqlVal_slice, eqlVal_wide, eqlVal_int, allT, ↓aop_eqlV, apure_neq, List.map_cons, List.map_nil, List.all_cons, List.all_nil, lit2, lit1, lit0, List.isEmpty_nil, bls, Bool.false_eq_true, if_true, if_false, List.length_map, beq_self_eq_true, uns, slLo_27 (hrow (maskN rrred_2 3 [] [])) hn hL]) hb ?_
  simp only [aput, setAt_lst, Nat.reduceLT, if_true, Nat.reduceAdd]
  refine k_row 1 US.nil agd_none (by kernel_rfl) (by kernel_rfl) (by kernel_rfl) (by simp only [opsP, Op.operands, Call.operands, List.toList_toArray, Array.toList_append, Option.toArray, List.cons_append, List.nil_append, List.append_nil, List.all_cons, List.all_nil, ev, nth_lst, upd_at, Nat.reduceEqDiff, reduceIte, Nat.reduceLT, if_true, Bool.and_self, Bool.and_true, lowF]; rfl) (cs := cellsN [38]) (e := 3) (ro := false) (k := 1) (d := 1) rfl (by simp only [List.append_eq, List.cons_append, List.nil_append, apure_call1, apure_call2, apure_call3, bft, btf, acodeN, List.getElem?_toArray, List.getElem?_cons_zero, List.getElem?_cons_succ, aopsN, adrawT, cls, astep, aop, afloat, ev, nth_lst, get_lst, aput, setAt_lst, upd_at, init_zero, init_succ, init_nil, Nat.reduceLT, Nat.reduceEqDiff, reduceIte, len_N, abuiltin_app, Option.map_some, Option.map_none, orElse_some, apure_add, apure_eqlV, eqlVal_str, eqlVal_bool, eqlVal_ptr, eqlVal_slice, eqlVal_wide, eqlVal_int, allT, ↓aop_eqlV, apure_neq, List.map_cons, List.map_nil, List.all_cons, List.all_nil, lit2, lit1, lit0, List.isEmpty_nil, bls, Bool.false_eq_true, if_true, if_false, List.length_map, beq_self_eq_true, uns, build27]; rfl) fun b4 nb4 ow4 r4 o4 us4 k4 => ?_
  simp only [aput, setAt_lst, Nat.reduceLT, if_true, Nat.reduceAdd]
  have a4 := row_at (m := m) r4 o4 ch54r
  have n4 : NumA ((m ++ maskN rrred_2 5 nb4 ow4).map Am.sealed) (.slice (some ⟨m.length + b4, 0, none⟩) 1 1) (dig 38) := by
    rw [dig38]
    exact NumA.row (n := 1) (L := [38]) a4.1 (by simp)
  have w4 : belowP (pW rrred_2 5 m.length ow4) 4 (.slice (some ⟨m.length + b4, 0, none⟩) 1 1) = true := a4.2
  have hx9 : (dig (x / 256 ^ 32)).length ≤ 100 := by
    have e1 := p2.1
    unfold lenV at e1
    simp only [Option.some.injEq] at e1
    omega
  refine k_num 1 (x / 256 ^ 32 * 38) us4 agd_none (by kernel_rfl) (by kernel_rfl) (by kernel_rfl) (by simp only [opsP, Op.operands, Call.operands, List.toList_toArray, Array.toList_append, Option.toArray, List.cons_append, List.nil_append, List.append_nil, List.all_cons, List.all_nil, ev, nth_lst, upd_at, Nat.reduceEqDiff, reduceIte, Nat.reduceLT, if_true, Bool.and_self, Bool.and_true, lowF, lowB, w4]) (by
      obtain ⟨v, M', h3, h4⟩ := cm ((m ++ maskN rrred_2 5 nb4 ow4).map Am.sealed) _ _ (x / 256 ^ 32) 38 (onto _ _ _ p2) n4 (by omega) (by rw [dig38]; simp)
      refine ⟨v, M', ?_, h4⟩
      simp only [List.append_eq, List.cons_append, List.nil_append, apure_call1, apure_call2, apure_call3, bft, btf, acodeN, List.getElem?_toArray, List.getElem?_cons_zero, List.getElem?_cons_succ, aopsN, adrawT, cls, astep, aop, afloat, ev, nth_lst, get_lst, aput, setAt_lst, upd_at, init_zero, init_succ, init_nil, Nat.reduceLT, Nat.reduceEqDiff, reduceIte, len_N, abuiltin_app, Option.map_some, Option.map_none, orElse_some, apure_add, apure_eqlV, eqlVal_str, eqlVal_bool, eqlVal_ptr, eqlVal_slice, eqlVal_wide, eqlVal_int, allT, ↓aop_eqlV, apure_neq, List.map_cons, List.map_nil, List.all_cons, List.all_nil, lit2, lit1, lit0, List.isEmpty_nil, bls, Bool.false_eq_true, if_true, if_false, List.length_map, beq_self_eq_true, uns, callMulR]
      exact h3) fun v5 nb5 ow5 n5 us5 k5 => ?_
  simp only [aput, setAt_lst, Nat.reduceLT, if_true, Nat.reduceAdd]
  have a5 := n5.at ch65r
  have h38 : (dig (x / 256 ^ 32 * 38)).length ≤ 101 := by
    refine dig_len_le ?_
    have h1 := lt_dig_len (x / 256 ^ 32)
    have h9 : 256 ^ (dig (x / 256 ^ 32)).length ≤ 256 ^ 100 := Nat.pow_le_pow_right (by omega) hx9
    have h10 : 256 ^ 101 = 256 ^ 100 * 256 := Nat.pow_succ ..
    rw [h10]
    generalize 256 ^ 100 = P at *
    generalize x / 256 ^ 32 = y at *
    omega
  refine k_numN 1 (x % 256 ^ 32 + x / 256 ^ 32 * 38) us5 agd_none (by kernel_rfl) (by kernel_rfl) (by kernel_rfl) (by simp only [opsP, Op.operands, Call.operands, List.toList_toArray, Array.toList_append, Option.toArray, List.cons_append, List.nil_append, List.append_nil, List.all_cons, List.all_nil, ev, nth_lst, upd_at, Nat.reduceEqDiff, reduceIte, Nat.reduceLT, if_true, Bool.and_self, Bool.and_true, lowF, lowB, a5.2]) (by
      obtain ⟨v, M', h3, h4⟩ := ca ((m ++ maskN rrred_2 6 nb5 ow5).map Am.sealed) _ v5 ((dig x).take 32) (dig (x / 256 ^ 32 * 38)) (x % 256 ^ 32 + x / 256 ^ 32 * 38) (onto _ _ _ p1) a5.1 (fun y hy => dig_lt x y (List.mem_of_mem_take hy)) (dig_lt _) (by rw [List.length_take]; omega) (by omega) (by rw [p3, val_dig])
      refine ⟨v, M', ?_, h4⟩
      simp only [List.append_eq, List.cons_append, List.nil_append, apure_call1, apure_call2, apure_call3, bft, btf, acodeN, List.getElem?_toArray, List.getElem?_cons_zero, List.getElem?_cons_succ, aopsN, adrawT, cls, astep, aop, afloat, ev, nth_lst, get_lst, aput, setAt_lst, upd_at, init_zero, init_succ, init_nil, Nat.reduceLT, Nat.reduceEqDiff, reduceIte, len_N, abuiltin_app, Option.map_some, Option.map_none, orElse_some, apure_add, apure_eqlV, eqlVal_str, eqlVal_bool, eqlVal_ptr, eqlVal_slice, eqlVal_wide, eqlVal_int, allT, ↓aop_eqlV, apure_neq, List.map_cons, List.map_nil, List.all_cons, List.all_nil, lit2, lit1, lit0, List.isEmpty_nil, bls, Bool.false_eq_true, if_true, if_false, List.length_map, beq_self_eq_true, uns, callAddR]
      exact h3) fun v6 nb6 ow6 n6 us6 k6 => ?_
  simp only [aput, setAt_lst, Nat.reduceLT, if_true, Nat.reduceAdd]
  refine k_float v6 agd_none (by kernel_rfl) (by kernel_rfl) (by simp only [List.append_eq, List.cons_append, List.nil_append, apure_call1, apure_call2, apure_call3, bft, btf, acodeN, List.getElem?_toArray, List.getElem?_cons_zero, List.getElem?_cons_succ, aopsN, adrawT, cls, astep, aop, afloat, ev, nth_lst, get_lst, aput, setAt_lst, upd_at, init_zero, init_succ, init_nil, Nat.reduceLT, Nat.reduceEqDiff, reduceIte, len_N, abuiltin_app, Option.map_some, Option.map_none, orElse_some, apure_add, apure_eqlV, eqlVal_str, eqlVal_bool, eqlVal_ptr, eqlVal_slice, eqlVal_wide, eqlVal_int, allT, ↓aop_eqlV, apure_neq, List.map_cons, List.map_nil, List.all_cons, List.all_nil, lit2, lit1, lit0, List.isEmpty_nil, bls, Bool.false_eq_true, if_true, if_false, List.length_map, beq_self_eq_true, uns, id_eq]) ?_
  simp only [aput, setAt_lst, Nat.reduceLT, if_true, Nat.reduceAdd]
  refine k_end ⟨_, rfl, ?_⟩
  simp only [upd_at, Nat.reduceEqDiff, reduceIte]
  exact n6.b
end Go.Am.Seat
namespace Go.Am.Seat
open Go.Proofs Go.Am
def NumS (m : Mem) (v : Value) (x : Nat) : Prop := (v = .slice none 0 0 ∧ x = 0) ∨ ∃ (b : Nat) (ro : Bool) (L : List Nat) (n : Nat), v = .slice (some ⟨b, 0, none⟩) n L.length ∧ NumW m b ro L n x
theorem NumS.a {m : Mem} {v : Value} {x : Nat} (h : NumS m v x) : NumA m v (dig x) := by
  rcases h with ⟨rfl, rfl⟩ | ⟨b, ro, L, n, rfl, h1, h2, h3, hne⟩
  · rw [dig_zero]; exact NumA.nil _
  · rw [← h2]; exact NumA.row h3 h1
theorem NumS.on {m m' : Mem} {v : Value} {x : Nat} (h : NumS m v x) (hk : Kept m m') : NumS m' v x := by
  rcases h with h | ⟨b, ro, L, n, rfl, h1, h2, h3, hne⟩
  · exact .inl h
  · exact .inr ⟨b, ro, L, n, rfl, h1, h2, by rw [hk.2 b (List.getElem?_eq_some_iff.1 h3).1]; exact h3, hne⟩
theorem NumS.sealed {m : Mem} {v : Value} {x : Nat} (h : NumS m v x) : NumS (m.map Am.sealed) v x := by
  rcases h with h | ⟨b, ro, L, n, rfl, h1, h2, h3, hne⟩
  · exact .inl h
  · exact .inr ⟨b, true, L, n, rfl, h1, h2, by rw [List.getElem?_map, h3]; rfl, hne⟩
theorem NumB.s {m : Mem} {B : Nat} {v : Value} {x : Nat} (h : NumB B v m x) : NumS m v x := by
  rcases h with h | ⟨L, n, b, ro, h1, h2, h3, rfl, h5, hne⟩
  · exact .inl h
  · exact .inr ⟨b, false, L, n, rfl, h1, h2, h5, hne⟩
theorem NumR.s {m m' : Mem} {v : Value} {x : Nat} (h : NumR m v m' x) : NumS m' v x := h.b.s
theorem NumS.len {m : Mem} {v : Value} {x : Nat} (h : NumS m v x) : lenV v = some (((dig x).length : Nat) : Int) := h.a.1
noncomputable def apS (P : Program) (t ty : TypeId) (v n : Value) : Option Value := apure P [v, n] { dst := none, op := .slice t (.tmp 0) none (some (.tmp 1)) none, type := ty, pos := "", after := #[], guard := none }
theorem callCmp5 : callableB E.P 37 = true := by kernel_rfl
theorem callSubR : callableB E.P 11 = true := by kernel_rfl
theorem apure_sl {P : Program} {T : List Value} {t ty : TypeId} {k j : Nat} {pos : String} {af : Array Edge} {g : Option (Nat × Bool)} {d : Option Tmp} : apure P T { dst := d, op := .slice t (.tmp k) none (some (.tmp j)) none, type := ty, pos := pos, after := af, guard := g } = apS P t ty (nth T k) (nth T j) := by
  unfold apS apure
  simp only [Op.operands, execOp, ev, nth_zero, List.all_cons, List.all_nil]
  rfl
theorem sl_nil : apS E.P 30 30 (.slice none 0 0) (.int .i64 0) = some (.slice none 0 0) := by kernel_rfl
section
variable {self : Self} {nf : Nat} {m : Mem} {F : Nat → Value}
theorem red_a {b n x : Nat} {ro : Bool} {L : List Nat} (cm : CMul self) (ca : CAddL self) (h0 : F 0 = .slice (some ⟨b, 0, none⟩) n L.length) (hN : NumW m b ro L n x) (hn : 32 < n) (hn9 : n ≤ 100) :
    ∃ F' nb, acodeN E self nf lprred_0 (lst F 41) m = some (.normal, lst F' 41, m ++ nb) ∧ NumB m.length (F' 0) (m ++ nb) (x % 256 ^ 32 + x / 256 ^ 32 * 38) := by
  have q0 : decide (((n : Nat) : Int) > 32) = true := decide_eq_true (by omega)
  obtain ⟨F', nb, hr, hB⟩ := red2 (self := self) (m := m) (F := upd (upd (upd F 5 (.slice (some ⟨b, 0, none⟩) n L.length)) 6 (.int .i64 ((n : Nat) : Int))) 7 (.bool true)) cm ca (by simp only [upd_at, Nat.reduceEqDiff, reduceIte, h0]) hN hn hn9
  simp only [lprred_0_eq, erred_0, erred_1, erred_10, erred_2, erred_3, erred_4, erred_5, erred_6, erred_7, erred_8, erred_9, lrred_0, lrred_1, lrred_2, lrred_3, lrred_4, lrred_5, lrred_6, lrred_7, lrred_8, lrred_9, lrred_10, grred_4_2, agd_none, gdAt, gdV_bool, gdV_undef, Tryz.f28, List.append_eq, List.cons_append, List.nil_append, apure_call1, apure_call2, apure_call3, bft, btf, acodeN, List.getElem?_toArray, List.getElem?_cons_zero, List.getElem?_cons_succ, aopsN, adrawT, cls, astep, aop, afloat, ev, nth_lst, get_lst, aput, setAt_lst, upd_at, init_zero, init_succ, init_nil, Nat.reduceLT, Nat.reduceEqDiff, reduceIte, len_N, abuiltin_app, Option.map_some, Option.map_none, orElse_some, apure_add, apure_eqlV, eqlVal_str, eqlVal_bool, eqlVal_ptr, eqlVal_slice, eqlVal_wide, eqlVal_int, allT, ↓aop_eqlV, apure_neq, List.map_cons, List.map_nil, List.all_cons, List.all_nil, lit2, lit1, lit0, List.isEmpty_nil, bls, Bool.false_eq_true, if_true, if_false, List.length_map, beq_self_eq_true, uns, h0, lenV, gtr64', q0, sr2r, mk2r, hr]
  exact ⟨F', nb, rfl, hB⟩
theorem red_b {n : Nat} {v : Value} (h0 : F 0 = v) (hv : lenV v = some ((n : Nat) : Int)) (hn : n ≤ 32) :
    ∃ F', acodeN E self nf lprred_0 (lst F 41) m = some (.exit 0, lst F' 41, m) ∧ F' 0 = v := by
  have q0 : decide (((n : Nat) : Int) > 32) = false := decide_eq_false (by omega)
  simp only [lprred_0_eq, erred_0, erred_1, erred_10, erred_2, erred_3, erred_4, erred_5, erred_6, erred_7, erred_8, erred_9, lrred_0, lrred_1, lrred_2, lrred_3, lrred_4, lrred_5, lrred_6, lrred_7, lrred_8, lrred_9, lrred_10, grred_4_2, agd_none, gdAt, gdV_bool, gdV_undef, Tryz.f28, List.append_eq, List.cons_append, List.nil_append, apure_call1, apure_call2, apure_call3, bft, btf, acodeN, List.getElem?_toArray, List.getElem?_cons_zero, List.getElem?_cons_succ, aopsN, adrawT, cls, astep, aop, afloat, ev, nth_lst, get_lst, aput, setAt_lst, upd_at, init_zero, init_succ, init_nil, Nat.reduceLT, Nat.reduceEqDiff, reduceIte, len_N, abuiltin_app, Option.map_some, Option.map_none, orElse_some, apure_add, apure_eqlV, eqlVal_str, eqlVal_bool, eqlVal_ptr, eqlVal_slice, eqlVal_wide, eqlVal_int, allT, ↓aop_eqlV, apure_neq, List.map_cons, List.map_nil, List.all_cons, List.all_nil, lit2, lit1, lit0, List.isEmpty_nil, bls, Bool.false_eq_true, if_true, if_false, List.length_map, beq_self_eq_true, uns, h0, hv, gtr64', q0]
  exact ⟨_, rfl, by simp only [upd_at, Nat.reduceEqDiff, reduceIte, h0]⟩
theorem red_c {x : Nat} {v : Value} (h0 : F 0 = v) (hN : NumS m v x) (hl : (dig x).length ≤ 1000) (h3 : F 3 = .int .i64 (((dig x).length : Nat) : Int)) :
    ∃ F', acodeN E self nf lprred_1 (lst F 41) m = some (.exit 2, lst F' 41, m) ∧ F' 0 = v ∧ F' 3 = F 3 := by
  by_cases hz : (dig x).length = 0
  · have q0 : decide ((((dig x).length : Nat) : Int) > 0) = false := decide_eq_false (by omega)
    simp only [lprred_1_eq, erred_0, erred_1, erred_10, erred_2, erred_3, erred_4, erred_5, erred_6, erred_7, erred_8, erred_9, lrred_0, lrred_1, lrred_2, lrred_3, lrred_4, lrred_5, lrred_6, lrred_7, lrred_8, lrred_9, lrred_10, grred_4_2, agd_none, gdAt, gdV_bool, gdV_undef, Tryz.f28, List.append_eq, List.cons_append, List.nil_append, apure_call1, apure_call2, apure_call3, bft, btf, acodeN, List.getElem?_toArray, List.getElem?_cons_zero, List.getElem?_cons_succ, aopsN, adrawT, cls, astep, aop, afloat, ev, nth_lst, get_lst, aput, setAt_lst, upd_at, init_zero, init_succ, init_nil, Nat.reduceLT, Nat.reduceEqDiff, reduceIte, len_N, abuiltin_app, Option.map_some, Option.map_none, orElse_some, apure_add, apure_eqlV, eqlVal_str, eqlVal_bool, eqlVal_ptr, eqlVal_slice, eqlVal_wide, eqlVal_int, allT, ↓aop_eqlV, apure_neq, List.map_cons, List.map_nil, List.all_cons, List.all_nil, lit2, lit1, lit0, List.isEmpty_nil, bls, Bool.false_eq_true, if_true, if_false, List.length_map, beq_self_eq_true, uns, h0, h3, gtr64', q0]
    exact ⟨_, rfl, by simp only [upd_at, Nat.reduceEqDiff, reduceIte, h0], by simp only [upd_at, Nat.reduceEqDiff, reduceIte, h3]⟩
  · have q0 : decide ((((dig x).length : Nat) : Int) > 0) = true := decide_eq_true (by omega)
    have e1 := wsub1 (a := (dig x).length) (by omega) (by omega)
    rcases dig_last x with h9 | ⟨z, hz0, hz1⟩
    · rw [h9] at hz; simp at hz
    obtain ⟨b, o, i1, c1⟩ := hN.a.2 _ z hz1
    have q1 : (((z : Nat) : Int) == 0) = false := by rw [beq_eq_false_iff_ne]; omega
    simp only [lprred_1_eq, erred_0, erred_1, erred_10, erred_2, erred_3, erred_4, erred_5, erred_6, erred_7, erred_8, erred_9, lrred_0, lrred_1, lrred_2, lrred_3, lrred_4, lrred_5, lrred_6, lrred_7, lrred_8, lrred_9, lrred_10, grred_4_2, agd_none, gdAt, gdV_bool, gdV_undef, Tryz.f28, List.append_eq, List.cons_append, List.nil_append, apure_call1, apure_call2, apure_call3, bft, btf, acodeN, List.getElem?_toArray, List.getElem?_cons_zero, List.getElem?_cons_succ, aopsN, adrawT, cls, astep, aop, afloat, ev, nth_lst, get_lst, aput, setAt_lst, upd_at, init_zero, init_succ, init_nil, Nat.reduceLT, Nat.reduceEqDiff, reduceIte, len_N, abuiltin_app, Option.map_some, Option.map_none, orElse_some, apure_add, apure_eqlV, eqlVal_str, eqlVal_bool, eqlVal_ptr, eqlVal_slice, eqlVal_wide, eqlVal_int, allT, ↓aop_eqlV, apure_neq, List.map_cons, List.map_nil, List.all_cons, List.all_nil, lit2, lit1, lit0, List.isEmpty_nil, bls, Bool.false_eq_true, if_true, if_false, List.length_map, beq_self_eq_true, uns, h0, h3, gtr64', q0, sub64', e1, i1, load3, c1, eql64, q1]
    exact ⟨_, rfl, by simp only [upd_at, Nat.reduceEqDiff, reduceIte, h0], by simp only [upd_at, Nat.reduceEqDiff, reduceIte, h3]⟩
theorem red_6 {x : Nat} {v : Value} (h0 : F 0 = v) (hN : NumS m v x) (h3 : F 3 = .int .i64 (((dig x).length : Nat) : Int)) :
    ∃ F', acodeN E self nf (.region 6 rrred_6 false) (lst F 41) m = some (.normal, lst F' 41, m) ∧ F' 0 = v := by
  rcases hN with ⟨rfl, rfl⟩ | ⟨b, ro, L, n, rfl, h1, h2, h4, hne⟩
  · rw [dig_zero] at h3
    have h3 : F 3 = .int .i64 0 := h3
    simp only [erred_0, erred_1, erred_10, erred_2, erred_3, erred_4, erred_5, erred_6, erred_7, erred_8, erred_9, lrred_0, lrred_1, lrred_2, lrred_3, lrred_4, lrred_5, lrred_6, lrred_7, lrred_8, lrred_9, lrred_10, grred_4_2, agd_none, gdAt, gdV_bool, gdV_undef, Tryz.f28, List.append_eq, List.cons_append, List.nil_append, apure_call1, apure_call2, apure_call3, bft, btf, acodeN, List.getElem?_toArray, List.getElem?_cons_zero, List.getElem?_cons_succ, aopsN, adrawT, cls, astep, aop, afloat, ev, nth_lst, get_lst, aput, setAt_lst, upd_at, init_zero, init_succ, init_nil, Nat.reduceLT, Nat.reduceEqDiff, reduceIte, len_N, abuiltin_app, Option.map_some, Option.map_none, orElse_some, apure_add, apure_eqlV, eqlVal_str, eqlVal_bool, eqlVal_ptr, eqlVal_slice, eqlVal_wide, eqlVal_int, allT, ↓aop_eqlV, apure_neq, List.map_cons, List.map_nil, List.all_cons, List.all_nil, lit2, lit1, lit0, List.isEmpty_nil, bls, Bool.false_eq_true, if_true, if_false, List.length_map, beq_self_eq_true, uns, h0, h3, apure_sl, sl_nil]
    exact ⟨_, rfl, by simp only [upd_at, Nat.reduceEqDiff, reduceIte]⟩
  · have hnl : (dig x).length = n := by rw [← h2, List.length_take, Nat.min_eq_left h1]
    rw [hnl] at h3
    have s1 := slHi_27 (n := n) h4 (List.length_pos_iff.2 hne) h1
    simp only [erred_0, erred_1, erred_10, erred_2, erred_3, erred_4, erred_5, erred_6, erred_7, erred_8, erred_9, lrred_0, lrred_1, lrred_2, lrred_3, lrred_4, lrred_5, lrred_6, lrred_7, lrred_8, lrred_9, lrred_10, grred_4_2, agd_none, gdAt, gdV_bool, gdV_undef, Tryz.f28, List.append_eq, List.cons_append, List.nil_append, apure_call1, apure_call2, apure_call3, bft, btf, acodeN, List.getElem?_toArray, List.getElem?_cons_zero, List.getElem?_cons_succ, aopsN, adrawT, cls, astep, aop, afloat, ev, nth_lst, get_lst, aput, setAt_lst, upd_at, init_zero, init_succ, init_nil, Nat.reduceLT, Nat.reduceEqDiff, reduceIte, len_N, abuiltin_app, Option.map_some, Option.map_none, orElse_some, apure_add, apure_eqlV, eqlVal_str, eqlVal_bool, eqlVal_ptr, eqlVal_slice, eqlVal_wide, eqlVal_int, allT, ↓aop_eqlV, apure_neq, List.map_cons, List.map_nil, List.all_cons, List.all_nil, lit2, lit1, lit0, List.isEmpty_nil, bls, Bool.false_eq_true, if_true, if_false, List.length_map, beq_self_eq_true, uns, h0, h3, s1]
    exact ⟨_, rfl, by simp only [upd_at, Nat.reduceEqDiff, reduceIte]⟩
theorem red_d {x y : Nat} {v w : Value} (cc : CCmp self) (cs : CSub self) (h0 : F 0 = v) (h4 : F 4 = w) (hv : NumA m v (dig x)) (hw : NumA m w (dig y)) (hlx : (dig x).length ≤ 800) (hly : (dig y).length ≤ 800) (hle : y ≤ x) :
    ∃ F' m', acodeN E self nf lprred_2 (lst F 41) m = some (.normal, lst F' 41, m') ∧ NumR m (F' 0) m' (x - y) ∧ F' 4 = w := by
  have e1 := cc m v w x y hv hw hlx hly
  obtain ⟨u, m', e2, r2⟩ := cs m v w x y hv hw hle hlx
  have q1 : decide (cmpN x y ≥ 0) = true := decide_eq_true (by unfold cmpN; split <;> (try split) <;> omega)
  simp only [lprred_2_eq, erred_0, erred_1, erred_10, erred_2, erred_3, erred_4, erred_5, erred_6, erred_7, erred_8, erred_9, lrred_0, lrred_1, lrred_2, lrred_3, lrred_4, lrred_5, lrred_6, lrred_7, lrred_8, lrred_9, lrred_10, grred_4_2, agd_none, gdAt, gdV_bool, gdV_undef, Tryz.f28, List.append_eq, List.cons_append, List.nil_append, apure_call1, apure_call2, apure_call3, bft, btf, acodeN, List.getElem?_toArray, List.getElem?_cons_zero, List.getElem?_cons_succ, aopsN, adrawT, cls, astep, aop, afloat, ev, nth_lst, get_lst, aput, setAt_lst, upd_at, init_zero, init_succ, init_nil, Nat.reduceLT, Nat.reduceEqDiff, reduceIte, len_N, abuiltin_app, Option.map_some, Option.map_none, orElse_some, apure_add, apure_eqlV, eqlVal_str, eqlVal_bool, eqlVal_ptr, eqlVal_slice, eqlVal_wide, eqlVal_int, allT, ↓aop_eqlV, apure_neq, List.map_cons, List.map_nil, List.all_cons, List.all_nil, lit2, lit1, lit0, List.isEmpty_nil, bls, Bool.false_eq_true, if_true, if_false, List.length_map, beq_self_eq_true, uns, h0, h4, callCmp5, e1, geq64, q1, callSubR, e2]
  exact ⟨_, _, rfl, by simp only [upd_at, Nat.reduceEqDiff, reduceIte]; exact r2, by simp only [upd_at, Nat.reduceEqDiff, reduceIte, h4]⟩
theorem red_e {x y : Nat} {v w : Value} (cc : CCmp self) (h0 : F 0 = v) (h4 : F 4 = w) (hv : NumA m v (dig x)) (hw : NumA m w (dig y)) (hlx : (dig x).length ≤ 800) (hly : (dig y).length ≤ 800) (hlt : x < y) :
    ∃ F', acodeN E self nf lprred_2 (lst F 41) m = some (.exit 4, lst F' 41, m) ∧ F' 0 = v := by
  have e1 := cc m v w x y hv hw hlx hly
  have q1 : decide (cmpN x y ≥ 0) = false := decide_eq_false (by unfold cmpN; split <;> (try split) <;> omega)
  simp only [lprred_2_eq, erred_0, erred_1, erred_10, erred_2, erred_3, erred_4, erred_5, erred_6, erred_7, erred_8, erred_9, lrred_0, lrred_1, lrred_2, lrred_3, lrred_4, lrred_5, lrred_6, lrred_7, lrred_8, lrred_9, lrred_10, grred_4_2, agd_none, gdAt, gdV_bool, gdV_undef, Tryz.f28, List.append_eq, List.cons_append, List.nil_append, apure_call1, apure_call2, apure_call3, bft, btf, acodeN, List.getElem?_toArray, List.getElem?_cons_zero, List.getElem?_cons_succ, aopsN, adrawT, cls, astep, aop, afloat, ev, nth_lst, get_lst, aput, setAt_lst, upd_at, init_zero, init_succ, init_nil, Nat.reduceLT, Nat.reduceEqDiff, reduceIte, len_N, abuiltin_app, Option.map_some, Option.map_none, orElse_some, apure_add, apure_eqlV, eqlVal_str, eqlVal_bool, eqlVal_ptr, eqlVal_slice, eqlVal_wide, eqlVal_int, allT, ↓aop_eqlV, apure_neq, List.map_cons, List.map_nil, List.all_cons, List.all_nil, lit2, lit1, lit0, List.isEmpty_nil, bls, Bool.false_eq_true, if_true, if_false, List.length_map, beq_self_eq_true, uns, h0, h4, callCmp5, e1, geq64, q1]
  exact ⟨_, rfl, by simp only [upd_at, Nat.reduceEqDiff, reduceIte, h0]⟩
end
end Go.Am.Seat
namespace Go.Am.Seat
open Go.Proofs Go.Am
abbrev p5 : Nat := 57896044618658097711785492504343953926634992332820282019728792003956564819949
def bnd : Nat → Nat → Prop
  | 0, y => y < 256 ^ 65
  | 1, y => y < 256 ^ 36
  | 2, y => y < 256 ^ 32 + 256 ^ 6
  | _, y => y < 256 ^ 32
theorem div_bnd {y k : Nat} (h : y < 256 ^ (32 + k)) : y / 256 ^ 32 < 256 ^ k := by
  rw [Nat.pow_add] at h
  exact Nat.div_lt_of_lt_mul h
theorem bnd_step {i y : Nat} (h : bnd i y) (hy : 256 ^ 32 ≤ y) : bnd (i + 1) (y % 256 ^ 32 + y / 256 ^ 32 * 38) ∧ i < 3 := by
  have hm : y % 256 ^ 32 < 256 ^ 32 := Nat.mod_lt _ (Nat.pow_pos (by omega))
  match i, h with
  | 0, h =>
    have h1 : y / 256 ^ 32 < 256 ^ 33 := div_bnd h
    refine ⟨?_, by omega⟩
    show _ < 256 ^ 36
    have e1 : 256 ^ 36 = 256 ^ 33 * (256 * 256 * 256) := by rw [show 36 = 33 + 3 from rfl, Nat.pow_add]
    have e2 : 256 ^ 33 = 256 ^ 32 * 256 := Nat.pow_succ ..
    generalize 256 ^ 33 = A at *
    generalize 256 ^ 32 = B at *
    generalize y / B = d at *
    generalize y % B = r at *
    omega
  | 1, h =>
    have h1 : y / 256 ^ 32 < 256 ^ 4 := div_bnd (k := 4) h
    refine ⟨?_, by omega⟩
    show _ < 256 ^ 32 + 256 ^ 6
    generalize y / 256 ^ 32 = d at *
    generalize y % 256 ^ 32 = r at *
    generalize 256 ^ 32 = B at *
    omega
  | 2, h =>
    refine ⟨?_, by omega⟩
    show _ < 256 ^ 32
    have h : y < 256 ^ 32 + 256 ^ 6 := h
    have hB : 256 ^ 6 + 38 < 256 ^ 32 := by decide +kernel
    have e1 := Nat.div_add_mod y (256 ^ 32)
    generalize 256 ^ 32 = B at *
    have hd : y / B = 1 := Nat.div_eq_of_lt_le (by omega) (by omega)
    rw [hd] at e1 ⊢
    generalize y % B = r at *
    omega
  | i + 3, h => exact absurd (show y < 256 ^ 32 from h) (by omega)
theorem red_mod (y : Nat) : (y % 256 ^ 32 + y / 256 ^ 32 * 38) % p5 = y % p5 := by
  have e1 : 256 ^ 32 = p5 * 2 + 38 := by decide +kernel
  have e2 : y = (y % 256 ^ 32 + y / 256 ^ 32 * 38) + p5 * (2 * (y / 256 ^ 32)) := by
    have h := Nat.div_add_mod y (256 ^ 32)
    generalize y / 256 ^ 32 = d at *
    generalize y % 256 ^ 32 = r at *
    rw [e1] at h
    rw [← h, Nat.add_mul]
    rw [show p5 * (2 * d) = p5 * 2 * d by rw [Nat.mul_assoc]]
    omega
  conv => rhs; rw [e2]
  rw [Nat.add_mul_mod_self_left]
theorem bnd_len {i y : Nat} (h : bnd i y) : (dig y).length ≤ 65 := by
  refine dig_len_le ?_
  match i, h with
  | 0, h => exact h
  | 1, h => exact Nat.lt_of_lt_of_le (show y < 256 ^ 36 from h) (Nat.pow_le_pow_right (by omega) (by omega))
  | 2, h => exact Nat.lt_of_lt_of_le (show y < 256 ^ 32 + 256 ^ 6 from h) (by decide +kernel)
  | i + 3, h => exact Nat.lt_of_lt_of_le (show y < 256 ^ 32 from h) (Nat.pow_le_pow_right (by omega) (by omega))
section
variable {self : Self} {nf : Nat} {m : Mem} {F : Nat → Value}
theorem red_l0 {a : Value} {x : Nat} (cm : CMul self) (ca : CAddL self) (h0 : F 0 = a) (hN : NumS m a x) (hx : x < 256 ^ 65) (hnf : 1000 < nf) :
    ∃ G m' y, aloop (acodeN E self nf lprred_0) nf (lst F 41) m = some (.exit 0, lst G 41, m') ∧ Kept m m' ∧ NumS m' (G 0) y ∧ y < 256 ^ 32 ∧ y % p5 = x % p5 ∧ (G 0 = a ∧ y = x ∨ NumB m.length (G 0) m' y) := by
  have hl := aloop_inv (body := acodeN E self nf lprred_0) (N := 3)
    (I := fun i T m' => ∃ G y, T = lst G 41 ∧ Kept m m' ∧ NumS m' (G 0) y ∧ bnd i y ∧ y % p5 = x % p5 ∧ (G 0 = a ∧ y = x ∨ NumB m.length (G 0) m' y))
    (Q := fun e T m' => e = .exit 0 ∧ ∃ G y, T = lst G 41 ∧ Kept m m' ∧ NumS m' (G 0) y ∧ y < 256 ^ 32 ∧ y % p5 = x % p5 ∧ (G 0 = a ∧ y = x ∨ NumB m.length (G 0) m' y)) (fun i T m' hi hI => by
      obtain ⟨G, y, rfl, hK, gN, gb, gm, go⟩ := hI
      have hlen := bnd_len gb
      by_cases h32 : (dig y).length ≤ 32
      · right
        obtain ⟨F', hr, f0⟩ := red_b (self := self) (nf := nf) (m := m') rfl gN.len h32
        have hy : y < 256 ^ 32 := Nat.lt_of_lt_of_le (lt_dig_len y) (Nat.pow_le_pow_right (by omega) h32)
        exact ⟨_, _, _, hr, by simp, rfl, F', y, rfl, hK, by rw [f0]; exact gN, hy, gm, by rw [f0]; exact go⟩
      · left
        have hy : 256 ^ 32 ≤ y := by
          by_cases h : 256 ^ 32 ≤ y
          · exact h
          · have := dig_len_le (n := y) (k := 32) (by omega); omega
        rcases gN with ⟨h1, rfl⟩ | ⟨b, ro, L, n, hv, hW⟩
        · rw [dig_zero] at h32; simp at h32
        · have hnl : (dig y).length = n := by rw [← hW.2.1, List.length_take, Nat.min_eq_left hW.1]
          obtain ⟨F', nb, hr, hB⟩ := red_a (self := self) (nf := nf) (m := m') cm ca hv hW (by omega) (by omega)
          obtain ⟨b1, b2⟩ := bnd_step gb hy
          exact ⟨_, _, hr, b2, F', _, rfl, hK.trans (Kept.app _ _), hB.s, b1, (red_mod y).trans gm, .inr (hB.mono hK.1)⟩)
  obtain ⟨e, T', m', hr, rfl, G, y, rfl, h⟩ := hl 3 0 nf (lst F 41) m (by omega) (by omega) ⟨F, x, rfl, Kept.refl _, by rw [h0]; exact hN, hx, rfl, .inl ⟨h0, rfl⟩⟩
  exact ⟨G, m', y, hr, h⟩
theorem p5_len : (dig p5).length ≤ 800 := Nat.le_trans (dig_len_le (k := 32) (by decide +kernel)) (by omega)
theorem q32_len {y : Nat} (h : y < 256 ^ 32) : (dig y).length ≤ 800 := Nat.le_trans (dig_len_le h) (by omega)
theorem red_l2 {a w : Value} {x : Nat} (cc : CCmp self) (cs : CSub self) {m0 : Mem} (hm0 : m0.length ≤ m.length) (h4 : F 4 = w) (hw : NumA m w (dig p5)) (hN : NumS m (F 0) x) (hx : x < 256 ^ 32) (ho : F 0 = a ∨ NumB m0.length (F 0) m x) (hnf : 1000 < nf) :
    ∃ G m' y, aloop (acodeN E self nf lprred_2) nf (lst F 41) m = some (.exit 4, lst G 41, m') ∧ Kept m m' ∧ y = x % p5 ∧ NumS m' (G 0) y ∧ (G 0 = a ∧ y = x ∨ NumB m0.length (G 0) m' y) := by
  have hp : 0 < p5 := by decide +kernel
  have h2p : 256 ^ 32 < p5 * 3 := by decide +kernel
  have hl := aloop_inv (body := acodeN E self nf lprred_2) (N := 2)
    (I := fun i T m' => ∃ G, T = lst G 41 ∧ Kept m m' ∧ G 4 = w ∧ p5 * i ≤ x ∧ NumS m' (G 0) (x - p5 * i) ∧ (G 0 = a ∧ i = 0 ∨ NumB m0.length (G 0) m' (x - p5 * i)))
    (Q := fun e T m' => e = .exit 4 ∧ ∃ G y, T = lst G 41 ∧ Kept m m' ∧ y = x % p5 ∧ NumS m' (G 0) y ∧ (G 0 = a ∧ y = x ∨ NumB m0.length (G 0) m' y)) (fun i T m' hi hI => by
      obtain ⟨G, rfl, hK, g4, gi, gN, go⟩ := hI
      have hlen : x - p5 * i < 256 ^ 32 := Nat.lt_of_le_of_lt (Nat.sub_le _ _) hx
      by_cases hle : p5 ≤ x - p5 * i
      · left
        obtain ⟨F', m2, hr, hR, f4⟩ := red_d (self := self) (nf := nf) (m := m') cc cs rfl g4 gN.a (hw.on hK) (q32_len hlen) p5_len hle
        have e1 : p5 * (i + 1) = p5 * i + p5 := Nat.mul_succ ..
        refine ⟨_, _, hr, ?_, F', rfl, hK.trans hR.keeps, f4, by omega, ?_, .inr ?_⟩
        · by_cases h2 : i < 2
          · exact h2
          · have : i = 2 := by omega
            subst this
            omega
        · rw [e1, ← Nat.sub_sub]; exact hR.s
        · rw [e1, ← Nat.sub_sub]; exact hR.b.mono (Nat.le_trans hm0 hK.1)
      · right
        obtain ⟨F', hr, f0⟩ := red_e (self := self) (nf := nf) (m := m') cc rfl g4 gN.a (hw.on hK) (q32_len hlen) p5_len (by omega)
        have hy : x - p5 * i = x % p5 := by
          have e1 : x = (x - p5 * i) + p5 * i := by omega
          conv => rhs; rw [e1]
          rw [Nat.add_mul_mod_self_left, Nat.mod_eq_of_lt (by omega)]
        refine ⟨_, _, _, hr, by simp, rfl, F', x - p5 * i, rfl, hK, hy, by rw [f0]; exact gN, ?_⟩
        rw [f0]
        rcases go with ⟨g0, rfl⟩ | g
        · exact .inl ⟨g0, by simp⟩
        · exact .inr g)
  obtain ⟨e, T', m', hr, rfl, G, y, rfl, h⟩ := hl 2 0 nf (lst F 41) m (by omega) (by omega) ⟨F, rfl, Kept.refl _, h4, by simp, by simpa using hN, by
    rcases ho with ho | ho
    · exact .inl ⟨ho, rfl⟩
    · exact .inr (by simpa using ho)⟩
  exact ⟨G, m', y, hr, h⟩
end
end Go.Am.Seat
namespace Go.Am.Seat
open Go.Proofs Go.Am
theorem callP5 : callableB E.P 12 = true := by kernel_rfl
theorem NumB.on {B r : Nat} {v : Value} {m m' : Mem} (h : NumB B v m r) (hk : Kept m m') : NumB B v m' r := by
  rcases h with h | ⟨L, n, b, ro, h1, h2, h3, h4, h5, hne⟩
  · exact .inl h
  · exact .inr ⟨L, n, b, ro, h1, h2, h3, h4, by rw [hk.2 b (List.getElem?_eq_some_iff.1 h5).1]; exact h5, hne⟩
section
variable {self : Self} {nf : Nat} {m : Mem} {F : Nat → Value}
theorem red_0 : ∃ F', acodeN E self nf (.region 0 rrred_0 false) (lst F 41) m = some (.normal, lst F' 41, m) ∧ F' 0 = F 0 := by
  simp only [erred_0, erred_1, erred_10, erred_2, erred_3, erred_4, erred_5, erred_6, erred_7, erred_8, erred_9, lrred_0, lrred_1, lrred_2, lrred_3, lrred_4, lrred_5, lrred_6, lrred_7, lrred_8, lrred_9, lrred_10, grred_4_2, agd_none, gdAt, gdV_bool, gdV_undef, Tryz.f28, List.append_eq, List.cons_append, List.nil_append, apure_call1, apure_call2, apure_call3, bft, btf, acodeN, List.getElem?_toArray, List.getElem?_cons_zero, List.getElem?_cons_succ, aopsN, adrawT, cls, astep, aop, afloat, ev, nth_lst, get_lst, aput, setAt_lst, upd_at, init_zero, init_succ, init_nil, Nat.reduceLT, Nat.reduceEqDiff, reduceIte, len_N, abuiltin_app, Option.map_some, Option.map_none, orElse_some, apure_add, apure_eqlV, eqlVal_str, eqlVal_bool, eqlVal_ptr, eqlVal_slice, eqlVal_wide, eqlVal_int, allT, ↓aop_eqlV, apure_neq, List.map_cons, List.map_nil, List.all_cons, List.all_nil, lit2, lit1, lit0, List.isEmpty_nil, bls, Bool.false_eq_true, if_true, if_false, List.length_map, beq_self_eq_true, uns]
  exact ⟨_, rfl, by simp only [upd_at, Nat.reduceEqDiff, reduceIte]⟩
theorem red_3 {n : Nat} (hv : lenV (F 0) = some ((n : Nat) : Int)) : ∃ F', acodeN E self nf (.region 3 rrred_3 false) (lst F 41) m = some (.normal, lst F' 41, m) ∧ F' 0 = F 0 ∧ F' 3 = .int .i64 ((n : Nat) : Int) := by
  simp only [erred_0, erred_1, erred_10, erred_2, erred_3, erred_4, erred_5, erred_6, erred_7, erred_8, erred_9, lrred_0, lrred_1, lrred_2, lrred_3, lrred_4, lrred_5, lrred_6, lrred_7, lrred_8, lrred_9, lrred_10, grred_4_2, agd_none, gdAt, gdV_bool, gdV_undef, Tryz.f28, List.append_eq, List.cons_append, List.nil_append, apure_call1, apure_call2, apure_call3, bft, btf, acodeN, List.getElem?_toArray, List.getElem?_cons_zero, List.getElem?_cons_succ, aopsN, adrawT, cls, astep, aop, afloat, ev, nth_lst, get_lst, aput, setAt_lst, upd_at, init_zero, init_succ, init_nil, Nat.reduceLT, Nat.reduceEqDiff, reduceIte, len_N, abuiltin_app, Option.map_some, Option.map_none, orElse_some, apure_add, apure_eqlV, eqlVal_str, eqlVal_bool, eqlVal_ptr, eqlVal_slice, eqlVal_wide, eqlVal_int, allT, ↓aop_eqlV, apure_neq, List.map_cons, List.map_nil, List.all_cons, List.all_nil, lit2, lit1, lit0, List.isEmpty_nil, bls, Bool.false_eq_true, if_true, if_false, List.length_map, beq_self_eq_true, uns, hv]
  exact ⟨_, rfl, by simp only [upd_at, Nat.reduceEqDiff, reduceIte], by simp only [upd_at, Nat.reduceEqDiff, reduceIte]⟩
theorem red_7 (cp : CP5 self) : ∃ F' m', acodeN E self nf (.region 7 rrred_7 false) (lst F 41) m = some (.normal, lst F' 41, m') ∧ F' 0 = F 0 ∧ NumR m (F' 4) m' p5 := by
  obtain ⟨v, m', e1, r1⟩ := cp m
  simp only [erred_0, erred_1, erred_10, erred_2, erred_3, erred_4, erred_5, erred_6, erred_7, erred_8, erred_9, lrred_0, lrred_1, lrred_2, lrred_3, lrred_4, lrred_5, lrred_6, lrred_7, lrred_8, lrred_9, lrred_10, grred_4_2, agd_none, gdAt, gdV_bool, gdV_undef, Tryz.f28, List.append_eq, List.cons_append, List.nil_append, apure_call1, apure_call2, apure_call3, bft, btf, acodeN, List.getElem?_toArray, List.getElem?_cons_zero, List.getElem?_cons_succ, aopsN, adrawT, cls, astep, aop, afloat, ev, nth_lst, get_lst, aput, setAt_lst, upd_at, init_zero, init_succ, init_nil, Nat.reduceLT, Nat.reduceEqDiff, reduceIte, len_N, abuiltin_app, Option.map_some, Option.map_none, orElse_some, apure_add, apure_eqlV, eqlVal_str, eqlVal_bool, eqlVal_ptr, eqlVal_slice, eqlVal_wide, eqlVal_int, allT, ↓aop_eqlV, apure_neq, List.map_cons, List.map_nil, List.all_cons, List.all_nil, lit2, lit1, lit0, List.isEmpty_nil, bls, Bool.false_eq_true, if_true, if_false, List.length_map, beq_self_eq_true, uns, callP5, e1]
  exact ⟨_, _, rfl, by simp only [upd_at, Nat.reduceEqDiff, reduceIte], by simp only [upd_at, Nat.reduceEqDiff, reduceIte]; exact r1⟩
theorem red_10 : ∃ F', acodeN E self nf (.region 10 rrred_10 false) (lst F 41) m = some (.normal, lst F' 41, m) ∧ F' 2 = F 0 := by
  simp only [erred_0, erred_1, erred_10, erred_2, erred_3, erred_4, erred_5, erred_6, erred_7, erred_8, erred_9, lrred_0, lrred_1, lrred_2, lrred_3, lrred_4, lrred_5, lrred_6, lrred_7, lrred_8, lrred_9, lrred_10, grred_4_2, agd_none, gdAt, gdV_bool, gdV_undef, Tryz.f28, List.append_eq, List.cons_append, List.nil_append, apure_call1, apure_call2, apure_call3, bft, btf, acodeN, List.getElem?_toArray, List.getElem?_cons_zero, List.getElem?_cons_succ, aopsN, adrawT, cls, astep, aop, afloat, ev, nth_lst, get_lst, aput, setAt_lst, upd_at, init_zero, init_succ, init_nil, Nat.reduceLT, Nat.reduceEqDiff, reduceIte, len_N, abuiltin_app, Option.map_some, Option.map_none, orElse_some, apure_add, apure_eqlV, eqlVal_str, eqlVal_bool, eqlVal_ptr, eqlVal_slice, eqlVal_wide, eqlVal_int, allT, ↓aop_eqlV, apure_neq, List.map_cons, List.map_nil, List.all_cons, List.all_nil, lit2, lit1, lit0, List.isEmpty_nil, bls, Bool.false_eq_true, if_true, if_false, List.length_map, beq_self_eq_true, uns]
  exact ⟨_, rfl, by simp only [upd_at, Nat.reduceEqDiff, reduceIte]⟩
theorem red_l1 {x : Nat} {v : Value} (h0 : F 0 = v) (hN : NumS m v x) (hl : (dig x).length ≤ 1000) (h3 : F 3 = .int .i64 (((dig x).length : Nat) : Int)) (hnf : 1000 < nf) :
    ∃ G, aloop (acodeN E self nf lprred_1) nf (lst F 41) m = some (.exit 2, lst G 41, m) ∧ G 0 = v ∧ G 3 = F 3 := by
  obtain ⟨G, hr, g⟩ := red_c (self := self) (nf := nf) h0 hN hl h3
  have hl := aloop_inv (body := acodeN E self nf lprred_1) (N := 0) (I := fun i T m' => T = lst F 41 ∧ m' = m) (Q := fun e T m' => e = .exit 2 ∧ T = lst G 41 ∧ m' = m) (fun i T m' hi hI => by
    obtain ⟨rfl, rfl⟩ := hI
    exact .inr ⟨_, _, _, hr, by simp, rfl, rfl, rfl⟩)
  obtain ⟨e, T', m', h1, rfl, rfl, rfl⟩ := hl 0 0 nf (lst F 41) m (by omega) (by omega) ⟨rfl, rfl⟩
  exact ⟨G, h1, g⟩
theorem red_body {a : Value} {x : Nat} (cm : CMul self) (ca : CAddL self) (cc : CCmp self) (cs : CSub self) (cp : CP5 self) (hN : NumS m a x) (hx : x < 256 ^ 65) (hnf : 1000 < nf) :
    ∃ v m1, abody E self nf 28 [a] m = some (v, m1) ∧ (v = a ∧ x % p5 = x ∨ NumB m.length v m1 (x % p5)) := by
  rw [abody_eqF (by kernel_rfl) Tryz.func28 bodyrred (by kernel_rfl) (Nat.le_of_ble_eq_true rfl)]
  rw [show Tryz.f28.ntmps = 41 from rfl]
  obtain ⟨A, ra, a0⟩ := red_0 (self := self) (nf := nf) (m := m) (F := init [a])
  have a0 : A 0 = a := a0
  obtain ⟨B, m1, y, rb, kb, nb, yb, eb, ob⟩ := red_l0 (self := self) (nf := nf) cm ca a0 hN hx hnf
  obtain ⟨C, rc, c0, c3⟩ := red_3 (self := self) (nf := nf) (m := m1) (F := B) nb.len
  have nc : NumS m1 (C 0) y := by rw [c0]; exact nb
  have hl := q32_len yb
  obtain ⟨D, rd, d0, d3⟩ := red_l1 (self := self) (nf := nf) (m := m1) (F := C) rfl nc (by omega) c3 hnf
  obtain ⟨H, re, e0⟩ := red_6 (self := self) (nf := nf) (m := m1) (F := D) d0 nc (d3.trans c3)
  obtain ⟨I, m2, rf, f0, f4⟩ := red_7 (self := self) (nf := nf) (m := m1) (F := H) cp
  have i0 : I 0 = B 0 := f0.trans (e0.trans c0)
  obtain ⟨J, m3, z, rg, kg, ez, nz, oz⟩ := red_l2 (self := self) (nf := nf) (m := m2) (F := I) (a := I 0) (x := y) cc cs (m0 := m) (Nat.le_trans kb.1 f4.keeps.1) rfl f4.is (by rw [i0]; exact nb.on f4.keeps) yb (.inl rfl) hnf
  obtain ⟨K, rh, k2⟩ := red_10 (self := self) (nf := nf) (m := m3) (F := J)
  have hz : z = x % p5 := by rw [ez, eb]
  refine ⟨J 0, m3, ?_, ?_⟩
  · generalize hc0 : Code.region 0 rrred_0 false = C0 at *
    generalize Code.region 3 rrred_3 false = C3 at *
    generalize Code.region 6 rrred_6 false = C6 at *
    generalize Code.region 7 rrred_7 false = C7 at *
    generalize Code.region 10 rrred_10 false = C10 at *
    simp only [acodeN, ra, rb, rc, rd, re, rf, rg, rh, if_true, finish, ares, aresL, ares1, Tryz.f28, ev, nth_lst, Nat.reduceLT, k2, Option.map_some]
  · rw [← hz]
    rcases oz with ⟨o1, o2⟩ | o1
    · rw [o1, i0, o2]
      rcases ob with ⟨o3, o4⟩ | o3
      · exact .inl ⟨o3, o4⟩
      · exact .inr ((o3.on f4.keeps).on kg)
    · exact .inr o1
end
def CRed (self : Self) : Prop := ∀ (m : Mem) (a : Value) (x : Nat), NumS m a x → x < 256 ^ 65 → ∃ v m', ainv E self 28 [a] m = some (v, m') ∧ (v = a ∧ m' = m ∧ x % p5 = x ∨ NumR m v m' (x % p5))
theorem cred {R : Nat → Self} {n : Nat} (hRb : ∀ (args : List Value) (m : Mem) (r : Value × Mem), abody E (R n) (n + 1) 28 args m = some r → R (n + 1) 28 args m = some r) (cm : CMul (R n)) (ca : CAddL (R n)) (cc : CCmp (R n)) (cs : CSub (R n)) (cp : CP5 (R n)) (hn : 1000 ≤ n) : CRed (R (n + 1)) := by
  intro m a x hN hx
  rcases hN with ⟨rfl, rfl⟩ | hrow
  · obtain ⟨v, m1, h1, h2⟩ := red_body (self := R n) (nf := n + 1) (m := (m.take E.G).map onlyTab) cm ca cc cs cp (.inl ⟨rfl, rfl⟩) hx (by omega)
    unfold ainv
    rw [show ([Value.slice none 0 0].all lit2) = true from rfl, show E.fast 28 = none from by kernel_rfl]
    simp only [if_true, hRb _ _ _ h1]
    rcases h2 with ⟨rfl, h3⟩ | h2
    · exact ⟨.slice none 0 0, m, by unfold acoll; exact if_pos rfl, .inl ⟨rfl, rfl, h3⟩⟩
    · obtain ⟨v', m', h4, h5⟩ := h2.coll (m := m)
      exact ⟨v', m', h4, .inr h5⟩
  · have hN : NumS m a x := .inr hrow
    obtain ⟨v, m1, h1, h2⟩ := red_body (self := R n) (nf := n + 1) (m := m.map Am.sealed) cm ca cc cs cp hN.sealed hx (by omega)
    obtain ⟨b, ro, L, k, rfl, hW⟩ := hrow
    unfold ainv
    rw [show ([Value.slice (some ⟨b, 0, none⟩) k L.length].all lit2) = false from rfl, show E.wr 28 = false from by kernel_rfl]
    simp only [Bool.false_eq_true, if_false, hRb _ _ _ h1]
    rcases h2 with ⟨rfl, h3⟩ | h2
    · exact ⟨_, m, acoll_old (by rw [List.length_map]; exact (List.getElem?_eq_some_iff.1 hW.2.2.1).1), .inl ⟨rfl, rfl, h3⟩⟩
    · obtain ⟨v', m', h4, h5⟩ := h2.coll (m := m)
      exact ⟨v', m', h4, .inr h5⟩
theorem CRed.new {self : Self} (cr : CRed self) {B : Nat} {m : Mem} {a : Value} {x : Nat} (h : NumB B a m x) (hx : x < 256 ^ 65) (hB : B ≤ m.length) : ∃ v m', ainv E self 28 [a] m = some (v, m') ∧ NumB B v m' (x % p5) := by
  obtain ⟨v, m', h1, h2⟩ := cr m a x h.s hx
  rcases h2 with ⟨rfl, rfl, h3⟩ | h2
  · exact ⟨_, _, h1, by rw [h3]; exact h⟩
  · exact ⟨_, _, h1, h2.b.mono hB⟩
end Go.Am.Seat
