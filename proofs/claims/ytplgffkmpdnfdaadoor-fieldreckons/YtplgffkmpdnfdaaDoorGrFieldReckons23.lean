/-
  Texts of my own, put together: G8, G9, G10.
-/
import Derived.Test.YtplgffkmpdnfdaaDoorGrFieldReckons22
/-
  The document's numbers of bytes, modulo p; whether an element is a number (own work).
-/
set_option linter.unusedSimpArgs false
set_option linter.unusedVariables false
namespace Go.Am.Seat
open Go.Proofs Go.Am Go.Am.Num
set_option maxRecDepth 100000

noncomputable def rrof5_0 : Array Oper := match Tryd.f37.body with
  | some (.seq (.region _ o _) _) => o
  | _ => #[]
noncomputable def lrof5_0 : List Oper := match Tryd.f37.body with
  | some (.seq (.region _ o _) _) => o.toList
  | _ => []
theorem erof5_0 : rrof5_0.toList = lrof5_0 := rfl
noncomputable def rrof5_1 : Array Oper := match Tryd.f37.body with
  | some (.seq _ (.seq (.region _ o _) _)) => o
  | _ => #[]
noncomputable def lrof5_1 : List Oper := match Tryd.f37.body with
  | some (.seq _ (.seq (.region _ o _) _)) => o.toList
  | _ => []
theorem erof5_1 : rrof5_1.toList = lrof5_1 := rfl
noncomputable def rrof5_2 : Array Oper := match Tryd.f37.body with
  | some (.seq _ (.seq _ (.seq (.seq (.region _ o _) _) _))) => o
  | _ => #[]
noncomputable def lrof5_2 : List Oper := match Tryd.f37.body with
  | some (.seq _ (.seq _ (.seq (.seq (.region _ o _) _) _))) => o.toList
  | _ => []
theorem erof5_2 : rrof5_2.toList = lrof5_2 := rfl
noncomputable def lprof5_0 : Code := match Tryd.f37.body with
  | some (.seq _ (.seq _ (.seq (.seq _ (.block _ (.loop c))) _))) => c
  | _ => .skip
noncomputable def rrof5_3 : Array Oper := match Tryd.f37.body with
  | some (.seq _ (.seq _ (.seq (.seq _ (.block _ (.loop (.seq (.seq (.region _ o _) _) _)))) _))) => o
  | _ => #[]
noncomputable def lrof5_3 : List Oper := match Tryd.f37.body with
  | some (.seq _ (.seq _ (.seq (.seq _ (.block _ (.loop (.seq (.seq (.region _ o _) _) _)))) _))) => o.toList
  | _ => []
theorem erof5_3 : rrof5_3.toList = lrof5_3 := rfl
noncomputable def rrof5_5 : Array Oper := match Tryd.f37.body with
  | some (.seq _ (.seq _ (.seq (.seq _ (.block _ (.loop (.seq _ (.seq (.block _ (.region _ o _)) _))))) _))) => o
  | _ => #[]
noncomputable def lrof5_5 : List Oper := match Tryd.f37.body with
  | some (.seq _ (.seq _ (.seq (.seq _ (.block _ (.loop (.seq _ (.seq (.block _ (.region _ o _)) _))))) _))) => o.toList
  | _ => []
theorem erof5_5 : rrof5_5.toList = lrof5_5 := rfl
noncomputable def rrof5_4 : Array Oper := match Tryd.f37.body with
  | some (.seq _ (.seq _ (.seq (.seq _ (.block _ (.loop (.seq _ (.seq _ (.region _ o _)))))) _))) => o
  | _ => #[]
noncomputable def lrof5_4 : List Oper := match Tryd.f37.body with
  | some (.seq _ (.seq _ (.seq (.seq _ (.block _ (.loop (.seq _ (.seq _ (.region _ o _)))))) _))) => o.toList
  | _ => []
theorem erof5_4 : rrof5_4.toList = lrof5_4 := rfl
theorem lprof5_0_eq : lprof5_0 = (.seq (.seq (.region 3 rrof5_3 false) (.cond (.tmp 7) .skip (.exit 0))) (.seq (.block 1 (.region 5 rrof5_5 false)) (.region 4 rrof5_4 false))) := rfl
noncomputable def rrof5_6 : Array Oper := match Tryd.f37.body with
  | some (.seq _ (.seq _ (.seq _ (.seq (.region _ o _) _)))) => o
  | _ => #[]
noncomputable def lrof5_6 : List Oper := match Tryd.f37.body with
  | some (.seq _ (.seq _ (.seq _ (.seq (.region _ o _) _)))) => o.toList
  | _ => []
theorem erof5_6 : rrof5_6.toList = lrof5_6 := rfl
theorem bodyrof5 : Tryd.f37.body = some (.seq (.region 0 rrof5_0 false) (.seq (.region 1 rrof5_1 false) (.seq (.seq (.region 2 rrof5_2 false) (.block 0 (.loop lprof5_0))) (.seq (.region 6 rrof5_6 false) .ret)))) := rfl
-- ntmps 20
noncomputable def ris5_0 : Array Oper := match Tryd.f38.body with
  | some (.seq (.region _ o _) _) => o
  | _ => #[]
noncomputable def lis5_0 : List Oper := match Tryd.f38.body with
  | some (.seq (.region _ o _) _) => o.toList
  | _ => []
theorem eis5_0 : ris5_0.toList = lis5_0 := rfl
noncomputable def ris5_1 : Array Oper := match Tryd.f38.body with
  | some (.seq _ (.seq (.region _ o _) _)) => o
  | _ => #[]
noncomputable def lis5_1 : List Oper := match Tryd.f38.body with
  | some (.seq _ (.seq (.region _ o _) _)) => o.toList
  | _ => []
theorem eis5_1 : ris5_1.toList = lis5_1 := rfl
theorem bodyis5 : Tryd.f38.body = some (.seq (.region 0 ris5_0 false) (.seq (.region 1 ris5_1 false) .ret)) := rfl
-- ntmps 10

theorem ix35 {b L c j : Nat} (h : j < L) : aindexAddr E.P 35 (.slice (some ⟨b, 0, none⟩) L c) (.int .i64 (j : Nat)) = some (.pointer (some ⟨b, j, none⟩)) := by
  obtain ⟨i, h1, h2⟩ := info_of (t := 5) (n := 1) (by kernel_rfl)
  unfold aindexAddr
  simp only [show E.P.underlying 35 = some (.slice 5) from Tryd.underlying35, h1]
  rw [if_pos (by omega)]
  simp [h2]
theorem make35n (c : Nat) (hc : c < 1000000) (m : Mem) : amakeSlice E.P 35 (.int .i64 (c : Nat)) (.int .i64 (c : Nat)) m = some (.slice (some ⟨m.length, 0, none⟩) c c, m ++ [.row false 5 (List.replicate c (.int .u8 0))]) := by
  have hz : zero1 E.P 5 = some (.int .u8 0) := by kernel_rfl
  have hi : (E.P.info? 5).map (·.bytes) = some 1 := by kernel_rfl
  obtain ⟨i, h1, h2⟩ := Option.map_eq_some_iff.1 hi
  unfold amakeSlice
  simp only [show E.P.underlying 35 = some (.slice 5) from Tryd.underlying35, hz, h1, h2]
  rw [wrap_i64 (n := (c : Int)) (by omega) (by omega), if_pos (by omega)]
  simp
theorem rowK_zero : List.replicate 32 (Value.int .u8 0) = rowK .u8 32 fun _ => 0 := by kernel_rfl
/-- The text of 32 bytes, and its number. -/
noncomputable def text32 (w : Nat → Nat) : ByteArray := bytesOfL (((List.range 32).map fun j => ((w j : Nat) : Int)).map fun n => UInt8.ofNat n.toNat)
def num32 (w : Nat → Nat) : Nat := val ((List.range 32).map w)
theorem text32_val {w : Nat → Nat} (hw : ∀ i, w i < 256) : natsOf (text32 w) = (List.range 32).map w := by
  unfold natsOf text32
  rw [bytesOfL_list, List.map_map, List.map_map]
  apply List.map_congr_left
  intro j _
  have := hw j
  simp only [Function.comp, Int.toNat_natCast, UInt8.toNat_ofNat']
  omega
theorem text32_len (w : Nat → Nat) : (text32 w).data.toList.length = 32 := by
  unfold text32
  rw [bytesOfL_list]
  simp
theorem num32_lt {w : Nat → Nat} (hw : ∀ i, w i < 256) : num32 w < 256 ^ 32 := by
  have := val_lt (l := (List.range 32).map w) (fun x hx => by
    obtain ⟨j, _, rfl⟩ := List.mem_map.1 hx
    exact hw j)
  rw [List.length_map, List.length_range] at this
  exact this

section
variable {self : Self} {nf : Nat} {m M : Mem} {F : Nat → Value} {i p q : Nat} {w v : Nat → Nat}
theorem rof5_it (h1 : F 1 = .pointer (some ⟨p, 0, none⟩)) (h3 : F 3 = .slice (some ⟨q, 0, none⟩) 32 32) (h4 : F 4 = .int .i64 (i : Nat)) (hi : i < 32) (hp : M[p]? = some (.row false 56 (rowK .u8 32 w))) (hq : M[q]? = some (.row false 5 (rowK .u8 32 v))) :
    ∃ F', acodeN E self nf lprof5_0 (lst F 20) M = some (.normal, lst F' 20, M.set q (.row false 5 (rowK .u8 32 fun j => if j = i then w i else v j))) ∧ F' 1 = F 1 ∧ F' 3 = F 3 ∧ F' 4 = .int .i64 ((i + 1 : Nat) : Int) := by
  have q2 : decide (((i : Nat) : Int) < 32) = true := decide_eq_true (by omega)
  have i1 := a46.ix (p := p) (j := i) hi
  have c1 := cellK hp hi
  have i2 := ix35 (b := q) (L := 32) (c := 32) hi
  have st := a46.storeE (x := w i) hq hi
  have ld := a46.loadE p i M
  have e4 := w1 (i := i) (by omega)
  simp only [lprof5_0_eq, erof5_0, erof5_1, erof5_2, erof5_3, erof5_4, erof5_5, erof5_6, lrof5_0, lrof5_1, lrof5_2, lrof5_3, lrof5_4, lrof5_5, lrof5_6, agd_none, gdAt, gdV_bool, gdV_undef, Tryd.f37, List.append_eq, List.cons_append, List.nil_append, apure_call1, apure_call2, apure_call3, bft, btf, acodeN, List.getElem?_toArray, List.getElem?_cons_zero, List.getElem?_cons_succ, aopsN, adrawT, cls, astep, aop, afloat, ev, nth_lst, get_lst, aput, setAt_lst, upd_at, init_zero, init_succ, init_nil, Nat.reduceLT, Nat.reduceEqDiff, reduceIte, len_N, abuiltin_app, Option.map_some, Option.map_none, orElse_some, apure_add, apure_eqlV, eqlVal_str, eqlVal_bool, eqlVal_ptr, eqlVal_slice, eqlVal_wide, eqlVal_int, allT, ↓aop_eqlV, apure_neq, List.map_cons, List.map_nil, List.all_cons, List.all_nil, lit2, lit1, lit0, List.isEmpty_nil, Bool.and_self, Bool.and_true, Bool.true_and, Bool.false_and, Bool.and_false, Bool.not_true, Bool.not_false, Bool.or_true, Bool.true_or, Bool.false_or, Bool.or_false, Bool.false_eq_true, if_true, if_false, List.length_map, beq_self_eq_true, und3, und4, und5, und9, h1, h3, h4, lss64, q2, i1, ld, c1, i2, st, add64', e4]
  exact ⟨_, rfl, by simp only [upd_at, Nat.reduceEqDiff, reduceIte, h1], by simp only [upd_at, Nat.reduceEqDiff, reduceIte, h3], by simp only [upd_at, Nat.reduceEqDiff, reduceIte]⟩
theorem rof5_ex (h4 : F 4 = .int .i64 (i : Nat)) (hi : 32 ≤ i) : ∃ F', acodeN E self nf lprof5_0 (lst F 20) M = some (.exit 0, lst F' 20, M) ∧ F' 3 = F 3 := by
  have q2 : decide (((i : Nat) : Int) < 32) = false := decide_eq_false (by omega)
  simp only [lprof5_0_eq, erof5_0, erof5_1, erof5_2, erof5_3, erof5_4, erof5_5, erof5_6, lrof5_0, lrof5_1, lrof5_2, lrof5_3, lrof5_4, lrof5_5, lrof5_6, agd_none, gdAt, gdV_bool, gdV_undef, Tryd.f37, List.append_eq, List.cons_append, List.nil_append, apure_call1, apure_call2, apure_call3, bft, btf, acodeN, List.getElem?_toArray, List.getElem?_cons_zero, List.getElem?_cons_succ, aopsN, adrawT, cls, astep, aop, afloat, ev, nth_lst, get_lst, aput, setAt_lst, upd_at, init_zero, init_succ, init_nil, Nat.reduceLT, Nat.reduceEqDiff, reduceIte, len_N, abuiltin_app, Option.map_some, Option.map_none, orElse_some, apure_add, apure_eqlV, eqlVal_str, eqlVal_bool, eqlVal_ptr, eqlVal_slice, eqlVal_wide, eqlVal_int, allT, ↓aop_eqlV, apure_neq, List.map_cons, List.map_nil, List.all_cons, List.all_nil, lit2, lit1, lit0, List.isEmpty_nil, Bool.and_self, Bool.and_true, Bool.true_and, Bool.false_and, Bool.and_false, Bool.not_true, Bool.not_false, Bool.or_true, Bool.true_or, Bool.false_or, Bool.or_false, Bool.false_eq_true, if_true, if_false, List.length_map, beq_self_eq_true, und3, und4, und5, und9, h4, lss64, q2]
  exact ⟨_, rfl, by simp only [upd_at, Nat.reduceEqDiff, reduceIte]⟩
theorem rof5_body (co : COf self) (cr : CRed self) (hw : ∀ i, w i < 256) (hnf : 1000 < nf) : ∃ v m', abody E self nf 37 [arrK .u8 32 w] m = some (v, m') ∧ NumB m.length v m' (num32 w % p5) := by
  rw [abody_eqF (by kernel_rfl) Tryd.func37 bodyrof5 (by kernel_rfl) (Nat.le_of_ble_eq_true rfl)]
  rw [show Tryd.f37.ntmps = 20 from rfl]
  have b1 := a46.box (w := w) (m := m)
  obtain ⟨A, hA⟩ : ∃ A, A = m ++ [Blk.row false 56 (rowK .u8 32 w)] := ⟨_, rfl⟩
  rw [← hA] at b1
  have lA : A.length = m.length + 1 := by rw [hA]; simp
  have b2 := make35n 32 (by omega) A
  rw [lA, rowK_zero, show (((32 : Nat) : Int)) = 32 from rfl] at b2
  obtain ⟨N, hN⟩ : ∃ N, N = A ++ [Blk.row false 5 (rowK .u8 32 fun _ => 0)] := ⟨_, rfl⟩
  rw [← hN] at b2
  have lN : N.length = m.length + 2 := by rw [hN]; simp [lA]
  have gp : N[m.length]? = some (.row false 56 (rowK .u8 32 w)) := by rw [hN, List.getElem?_append_left (by omega), hA]; simp
  have gq : N[m.length + 1]? = some (.row false 5 (rowK .u8 32 fun _ => 0)) := by rw [hN, ← lA]; simp
  have hl := aloop_inv (body := acodeN E self nf lprof5_0) (N := 32)
    (I := fun i T M => ∃ G, T = lst G 20 ∧ G 1 = .pointer (some ⟨m.length, 0, none⟩) ∧ G 3 = .slice (some ⟨m.length + 1, 0, none⟩) 32 32 ∧ G 4 = .int .i64 (i : Nat) ∧ M.length = m.length + 2 ∧ M[m.length + 1]? = some (.row false 5 (rowK .u8 32 fun j => if j < i then w j else 0)) ∧ M[m.length]? = some (.row false 56 (rowK .u8 32 w)))
    (Q := fun e T M => e = .exit 0 ∧ ∃ G, T = lst G 20 ∧ G 3 = .slice (some ⟨m.length + 1, 0, none⟩) 32 32 ∧ M.length = m.length + 2 ∧ M[m.length + 1]? = some (.row false 5 (rowK .u8 32 w))) (fun i T M hi hI => by
      obtain ⟨G, rfl, g1, g3, g4, gl, gr, gb⟩ := hI
      by_cases hlt : i < 32
      · left
        obtain ⟨F', hr, f1, f3, f4⟩ := rof5_it (self := self) (nf := nf) g1 g3 g4 hlt gb gr
        refine ⟨_, _, hr, by omega, F', rfl, f1.trans g1, f3.trans g3, f4, by rw [List.length_set]; exact gl, ?_, by rw [List.getElem?_set_ne (by omega)]; exact gb⟩
        rw [List.getElem?_set_self (lt_of_at gr)]
        refine congrArg (fun l => some (Blk.row false 5 l)) (rowK_ext fun j _ => ?_)
        by_cases hj : j = i
        · subst hj
          rw [if_pos rfl, if_pos (by omega)]
        · rw [if_neg hj]
          by_cases hj2 : j < i
          · rw [if_pos hj2, if_pos (by omega)]
          · rw [if_neg hj2, if_neg (by omega)]
      · right
        obtain ⟨F', hr, f3⟩ := rof5_ex (self := self) (nf := nf) (M := M) g4 (by omega)
        refine ⟨_, _, _, hr, by simp, rfl, F', rfl, f3.trans g3, gl, ?_⟩
        rw [gr]
        refine congrArg (fun l => some (Blk.row false 5 l)) (rowK_ext fun j hj => ?_)
        rw [if_pos (by omega)])
  obtain ⟨e, T', M1, hr, rfl, G, rfl, g3, gl, gr⟩ := hl 32 0 nf (lst (upd (upd (upd (upd (upd (init [arrK .u8 32 w]) 1 (.pointer (some ⟨m.length, 0, none⟩))) 2 (.slice none 0 0)) 5 (.slice (some ⟨m.length + 1, 0, none⟩) 32 32)) 3 (.slice (some ⟨m.length + 1, 0, none⟩) 32 32)) 4 (.int .i64 0)) 20) N (by omega) (by omega) ⟨_, rfl, rfl, rfl, rfl, lN, by rw [gq]; simp, gp⟩
  have e1 : aconvB E.P 35 9 (.slice (some ⟨m.length + 1, 0, none⟩) 32 32) M1 = some (.string (text32 w), M1) := conv35_str (l := (List.range 32).map fun j => ((w j : Nat) : Int)) gr (by rw [List.take_of_length_le (by rw [rowK_length]; omega), List.map_map]; rfl) (by rw [rowK_length]; omega)
  obtain ⟨u, m2, e2, r2⟩ := co M1 (text32 w) (by rw [text32_len]; omega)
  rw [text32_val hw] at r2
  have r2 : NumR M1 u m2 (num32 w) := r2
  obtain ⟨z, m3, e3, r3⟩ := cr.new (B := m.length) (r2.b.mono (by omega)) (lt_pow (num32_lt hw) (by omega)) (by have := r2.keeps.1; omega)
  have c0 := aconv35
  generalize arrK .u8 32 w = vw at *
  generalize text32 w = tw at *
  generalize num32 w = nw at *
  clear gr gp gq hl hN hA
  simp only [erof5_0, erof5_1, erof5_2, erof5_3, erof5_4, erof5_5, erof5_6, lrof5_0, lrof5_1, lrof5_2, lrof5_3, lrof5_4, lrof5_5, lrof5_6, agd_none, gdAt, gdV_bool, gdV_undef, Tryd.f37, List.append_eq, List.cons_append, List.nil_append, apure_call1, apure_call2, apure_call3, bft, btf, acodeN, List.getElem?_toArray, List.getElem?_cons_zero, List.getElem?_cons_succ, aopsN, adrawT, cls, astep, aop, afloat, ev, nth_lst, get_lst, aput, setAt_lst, upd_at, init_zero, init_succ, init_nil, Nat.reduceLT, Nat.reduceEqDiff, reduceIte, len_N, abuiltin_app, Option.map_some, Option.map_none, orElse_some, apure_add, apure_eqlV, eqlVal_str, eqlVal_bool, eqlVal_ptr, eqlVal_slice, eqlVal_wide, eqlVal_int, allT, ↓aop_eqlV, apure_neq, List.map_cons, List.map_nil, List.all_cons, List.all_nil, lit2, lit1, lit0, List.isEmpty_nil, Bool.and_self, Bool.and_true, Bool.true_and, Bool.false_and, Bool.and_false, Bool.not_true, Bool.not_false, Bool.or_true, Bool.true_or, Bool.false_or, Bool.or_false, Bool.false_eq_true, if_true, if_false, List.length_map, beq_self_eq_true, und3, und4, und5, und9, b1, b2, hr, g3, c0, apure_convert, isAddr, e1, callOf, e2, callRed, e3, finish, ares, aresL, ares1]
  exact ⟨_, _, rfl, r3⟩
end
/-- What Of answers. -/
def COf5 (self : Self) : Prop := ∀ (m : Mem) (w : Nat → Nat), (∀ i, w i < 256) → ∃ v m', ainv E self 37 [arrK .u8 32 w] m = some (v, m') ∧ NumR m v m' (num32 w % p5)
theorem cof5 {R : Nat → Self} {K : List Fact} (hR : Runs R K) {n : Nat} (hK : hasF K 37 = false) (hn : 1000 ≤ n) (co : COf (R n)) (cr : CRed (R n)) : COf5 (R (n + 1)) := by
  intro m w hw
  obtain ⟨v, m1, h1, h2⟩ := rof5_body (self := R n) (nf := n + 1) (m := (m.take E.G).map onlyTab) co cr hw (by omega)
  unfold ainv
  rw [show ([arrK .u8 32 w].all lit2) = true by simp only [List.all_cons, arrK_lit]; rfl, show E.fast 37 = none from by kernel_rfl]
  simp only [if_true, hR.b hK h1]
  exact h2.coll

theorem p5_eq : P25519 = p5 := by decide +kernel
theorem callByt5 : callableB E.P 81 = true := by kernel_rfl
section
variable {self : Self} {nf : Nat} {m : Mem} {a : Value} {X y : Nat}
theorem is5_body (hby : ∀ X, Ans self 57 [el X] (arrK .u8 32 (byteX X))) (cb : CByt5 self) (hN : NumA m a (dig y)) (hX : X < P25519) (hy : y < p5) :
    ∃ m', abody E self nf 38 [el X, a] m = some (.bool (decide (X = y)), m') := by
  rw [abody_eqF (by kernel_rfl) Tryd.func38 bodyis5 (by kernel_rfl) (Nat.le_of_ble_eq_true rfl)]
  rw [show Tryd.f38.ntmps = 10 from rfl]
  have b1 := box48 (wd 0 X) (wd 1 X) (wd 2 X) (wd 3 X) m
  obtain ⟨A, hA⟩ : ∃ A, A = m ++ [Blk.row false 58 (c4 (wd 0 X) (wd 1 X) (wd 2 X) (wd 3 X))] := ⟨_, rfl⟩
  rw [← hA] at b1
  have kA : Kept m A := by rw [hA]; exact Kept.app _ _
  have l1 : aload E.P 58 (.pointer (some ⟨m.length, 0, none⟩)) A = some (st4 (wd 0 X) (wd 1 X) (wd 2 X) (wd 3 X)) := load48 (ro := false) (e := 58) (by rw [hA]; simp)
  rw [← el_st] at b1 l1
  have c1 := hby X A
  have c2 := cb A a y (hN.on kA) (Nat.lt_trans hy p5_lt)
  have hs := bytes_same hX (by rw [p5_eq]; exact hy : y < P25519)
  simp only [eis5_0, eis5_1, lis5_0, lis5_1, agd_none, gdAt, gdV_bool, gdV_undef, Tryd.f38, List.append_eq, List.cons_append, List.nil_append, apure_call1, apure_call2, apure_call3, bft, btf, acodeN, List.getElem?_toArray, List.getElem?_cons_zero, List.getElem?_cons_succ, aopsN, adrawT, cls, astep, aop, afloat, ev, nth_lst, get_lst, aput, setAt_lst, upd_at, init_zero, init_succ, init_nil, Nat.reduceLT, Nat.reduceEqDiff, reduceIte, len_N, abuiltin_app, Option.map_some, Option.map_none, orElse_some, apure_add, apure_eqlV, eqlVal_str, eqlVal_bool, eqlVal_ptr, eqlVal_slice, eqlVal_wide, eqlVal_int, allT, ↓aop_eqlV, apure_neq, List.map_cons, List.map_nil, List.all_cons, List.all_nil, lit2, lit1, lit0, List.isEmpty_nil, Bool.and_self, Bool.and_true, Bool.true_and, Bool.false_and, Bool.and_false, Bool.not_true, Bool.not_false, Bool.or_true, Bool.true_or, Bool.false_or, Bool.or_false, Bool.false_eq_true, if_true, if_false, List.length_map, beq_self_eq_true, und3, und4, und5, und9, b1, l1, callBy, c1, callByt5, c2, eql46, hs, finish, ares, aresL, ares1]
  exact ⟨_, rfl⟩
end
/-- What Is answers. -/
def CIs5 (self : Self) : Prop := ∀ (m : Mem) (a : Value) (X y : Nat), NumA m a (dig y) → X < P25519 → y < p5 → ainv E self 38 [el X, a] m = some (.bool (decide (X = y)), m)
theorem cis5 {R : Nat → Self} {K : List Fact} (hR : Runs R K) {n : Nat} (hK : hasF K 38 = false) (hby : ∀ X, Ans (R n) 57 [el X] (arrK .u8 32 (byteX X))) (cb : CByt5 (R n)) : CIs5 (R (n + 1)) := by
  intro m a X y ha hX hy
  by_cases hl : ([el X, a].all lit2) = true
  · have hl9 := hl
    simp only [List.all_cons, List.all_nil, Bool.and_true, Bool.and_eq_true] at hl9
    obtain ⟨rfl, h1⟩ := ha.lit hl9.2
    obtain ⟨m', hb⟩ := is5_body (self := R n) (nf := n + 1) (m := (m.take E.G).map onlyTab) (a := .slice none 0 0) (X := X) (y := y) hby cb (by rw [h1]; exact NumA.nil _) hX hy
    exact ainv_lit hl (by kernel_rfl) (hR.b hK hb) rfl
  · obtain ⟨m', hb⟩ := is5_body (self := R n) (nf := n + 1) hby cb ha.sealed hX hy
    exact ainv_look (by simpa using hl) (by kernel_rfl) (hR.b hK hb) rfl
end Go.Am.Seat

/-
  FieldReckons: its region of sums, differences, products (own work).
-/
set_option linter.unusedSimpArgs false
set_option linter.unusedVariables false
namespace Go.Am.Seat
open Go.Proofs Go.Am Go.Am.Num
set_option maxRecDepth 100000

noncomputable def rfre_0 : Array Oper := match Tryd.f7.body with
  | some (.seq (.region _ o _) _) => o
  | _ => #[]
noncomputable def lfre_0 : List Oper := match Tryd.f7.body with
  | some (.seq (.region _ o _) _) => o.toList
  | _ => []
theorem efre_0 : rfre_0.toList = lfre_0 := rfl
noncomputable def rfre_1 : Array Oper := match Tryd.f7.body with
  | some (.seq _ (.seq (.seq (.region _ o _) _) _)) => o
  | _ => #[]
noncomputable def lfre_1 : List Oper := match Tryd.f7.body with
  | some (.seq _ (.seq (.seq (.region _ o _) _) _)) => o.toList
  | _ => []
theorem efre_1 : rfre_1.toList = lfre_1 := rfl
noncomputable def rfre_2 : Array Oper := match Tryd.f7.body with
  | some (.seq _ (.seq (.seq _ (.cond _ (.seq (.region _ o _) _) _)) _)) => o
  | _ => #[]
noncomputable def lfre_2 : List Oper := match Tryd.f7.body with
  | some (.seq _ (.seq (.seq _ (.cond _ (.seq (.region _ o _) _) _)) _)) => o.toList
  | _ => []
theorem efre_2 : rfre_2.toList = lfre_2 := rfl
noncomputable def rfre_3 : Array Oper := match Tryd.f7.body with
  | some (.seq _ (.seq _ (.seq (.region _ o _) _))) => o
  | _ => #[]
noncomputable def lfre_3 : List Oper := match Tryd.f7.body with
  | some (.seq _ (.seq _ (.seq (.region _ o _) _))) => o.toList
  | _ => []
theorem efre_3 : rfre_3.toList = lfre_3 := rfl
noncomputable def rfre_4 : Array Oper := match Tryd.f7.body with
  | some (.seq _ (.seq _ (.seq _ (.seq (.region _ o _) _)))) => o
  | _ => #[]
noncomputable def lfre_4 : List Oper := match Tryd.f7.body with
  | some (.seq _ (.seq _ (.seq _ (.seq (.region _ o _) _)))) => o.toList
  | _ => []
theorem efre_4 : rfre_4.toList = lfre_4 := rfl
noncomputable def rfre_5 : Array Oper := match Tryd.f7.body with
  | some (.seq _ (.seq _ (.seq _ (.seq _ (.seq (.region _ o _) _))))) => o
  | _ => #[]
noncomputable def lfre_5 : List Oper := match Tryd.f7.body with
  | some (.seq _ (.seq _ (.seq _ (.seq _ (.seq (.region _ o _) _))))) => o.toList
  | _ => []
theorem efre_5 : rfre_5.toList = lfre_5 := rfl
noncomputable def rfre_6 : Array Oper := match Tryd.f7.body with
  | some (.seq _ (.seq _ (.seq _ (.seq _ (.seq _ (.seq (.region _ o _) _)))))) => o
  | _ => #[]
noncomputable def lfre_6 : List Oper := match Tryd.f7.body with
  | some (.seq _ (.seq _ (.seq _ (.seq _ (.seq _ (.seq (.region _ o _) _)))))) => o.toList
  | _ => []
theorem efre_6 : rfre_6.toList = lfre_6 := rfl
noncomputable def rfre_7 : Array Oper := match Tryd.f7.body with
  | some (.seq _ (.seq _ (.seq _ (.seq _ (.seq _ (.seq _ (.seq (.region _ o _) _))))))) => o
  | _ => #[]
noncomputable def lfre_7 : List Oper := match Tryd.f7.body with
  | some (.seq _ (.seq _ (.seq _ (.seq _ (.seq _ (.seq _ (.seq (.region _ o _) _))))))) => o.toList
  | _ => []
theorem efre_7 : rfre_7.toList = lfre_7 := rfl
noncomputable def rfre_8 : Array Oper := match Tryd.f7.body with
  | some (.seq _ (.seq _ (.seq _ (.seq _ (.seq _ (.seq _ (.seq _ (.seq (.seq (.region _ o _) _) _)))))))) => o
  | _ => #[]
noncomputable def lfre_8 : List Oper := match Tryd.f7.body with
  | some (.seq _ (.seq _ (.seq _ (.seq _ (.seq _ (.seq _ (.seq _ (.seq (.seq (.region _ o _) _) _)))))))) => o.toList
  | _ => []
theorem efre_8 : rfre_8.toList = lfre_8 := rfl
theorem gfre_8_4 {T : List Value} {dd : Option Tmp} {op : Op} {ty : TypeId} {pos : String} {af : Array Edge} {want : Bool} : agd rfre_8 T { dst := dd, op := op, type := ty, pos := pos, after := af, guard := some (4, want) } = gdAt T 37 want := agd_at (by kernel_rfl)
theorem gfre_8_12 {T : List Value} {dd : Option Tmp} {op : Op} {ty : TypeId} {pos : String} {af : Array Edge} {want : Bool} : agd rfre_8 T { dst := dd, op := op, type := ty, pos := pos, after := af, guard := some (12, want) } = gdAt T 45 want := agd_at (by kernel_rfl)
theorem gfre_8_22 {T : List Value} {dd : Option Tmp} {op : Op} {ty : TypeId} {pos : String} {af : Array Edge} {want : Bool} : agd rfre_8 T { dst := dd, op := op, type := ty, pos := pos, after := af, guard := some (22, want) } = gdAt T 55 want := agd_at (by kernel_rfl)
theorem gfre_8_32 {T : List Value} {dd : Option Tmp} {op : Op} {ty : TypeId} {pos : String} {af : Array Edge} {want : Bool} : agd rfre_8 T { dst := dd, op := op, type := ty, pos := pos, after := af, guard := some (32, want) } = gdAt T 65 want := agd_at (by kernel_rfl)
theorem gfre_8_42 {T : List Value} {dd : Option Tmp} {op : Op} {ty : TypeId} {pos : String} {af : Array Edge} {want : Bool} : agd rfre_8 T { dst := dd, op := op, type := ty, pos := pos, after := af, guard := some (42, want) } = gdAt T 75 want := agd_at (by kernel_rfl)
theorem gfre_8_51 {T : List Value} {dd : Option Tmp} {op : Op} {ty : TypeId} {pos : String} {af : Array Edge} {want : Bool} : agd rfre_8 T { dst := dd, op := op, type := ty, pos := pos, after := af, guard := some (51, want) } = gdAt T 84 want := agd_at (by kernel_rfl)
theorem gfre_8_59 {T : List Value} {dd : Option Tmp} {op : Op} {ty : TypeId} {pos : String} {af : Array Edge} {want : Bool} : agd rfre_8 T { dst := dd, op := op, type := ty, pos := pos, after := af, guard := some (59, want) } = gdAt T 92 want := agd_at (by kernel_rfl)
noncomputable def rfre_9 : Array Oper := match Tryd.f7.body with
  | some (.seq _ (.seq _ (.seq _ (.seq _ (.seq _ (.seq _ (.seq _ (.seq (.seq _ (.cond _ (.seq (.region _ o _) _) _)) _)))))))) => o
  | _ => #[]
noncomputable def lfre_9 : List Oper := match Tryd.f7.body with
  | some (.seq _ (.seq _ (.seq _ (.seq _ (.seq _ (.seq _ (.seq _ (.seq (.seq _ (.cond _ (.seq (.region _ o _) _) _)) _)))))))) => o.toList
  | _ => []
theorem efre_9 : rfre_9.toList = lfre_9 := rfl
noncomputable def rfre_10 : Array Oper := match Tryd.f7.body with
  | some (.seq _ (.seq _ (.seq _ (.seq _ (.seq _ (.seq _ (.seq _ (.seq _ (.seq (.region _ o _) _))))))))) => o
  | _ => #[]
noncomputable def lfre_10 : List Oper := match Tryd.f7.body with
  | some (.seq _ (.seq _ (.seq _ (.seq _ (.seq _ (.seq _ (.seq _ (.seq _ (.seq (.region _ o _) _))))))))) => o.toList
  | _ => []
theorem efre_10 : rfre_10.toList = lfre_10 := rfl
theorem gfre_10_5 {T : List Value} {dd : Option Tmp} {op : Op} {ty : TypeId} {pos : String} {af : Array Edge} {want : Bool} : agd rfre_10 T { dst := dd, op := op, type := ty, pos := pos, after := af, guard := some (5, want) } = gdAt T 105 want := agd_at (by kernel_rfl)
theorem gfre_10_13 {T : List Value} {dd : Option Tmp} {op : Op} {ty : TypeId} {pos : String} {af : Array Edge} {want : Bool} : agd rfre_10 T { dst := dd, op := op, type := ty, pos := pos, after := af, guard := some (13, want) } = gdAt T 113 want := agd_at (by kernel_rfl)
theorem gfre_10_23 {T : List Value} {dd : Option Tmp} {op : Op} {ty : TypeId} {pos : String} {af : Array Edge} {want : Bool} : agd rfre_10 T { dst := dd, op := op, type := ty, pos := pos, after := af, guard := some (23, want) } = gdAt T 123 want := agd_at (by kernel_rfl)
theorem gfre_10_36 {T : List Value} {dd : Option Tmp} {op : Op} {ty : TypeId} {pos : String} {af : Array Edge} {want : Bool} : agd rfre_10 T { dst := dd, op := op, type := ty, pos := pos, after := af, guard := some (36, want) } = gdAt T 136 want := agd_at (by kernel_rfl)
theorem bodyfre : Tryd.f7.body = some (.seq (.region 0 rfre_0 false) (.seq (.seq (.region 1 rfre_1 false) (.cond (.tmp 14) (.seq (.region 2 rfre_2 false) .ret) .skip)) (.seq (.region 3 rfre_3 true) (.seq (.region 4 rfre_4 true) (.seq (.region 5 rfre_5 false) (.seq (.region 6 rfre_6 false) (.seq (.region 7 rfre_7 true) (.seq (.seq (.region 8 rfre_8 false) (.cond (.tmp 99) (.seq (.region 9 rfre_9 false) .ret) .skip)) (.seq (.region 10 rfre_10 false) .ret))))))))) := rfl
-- ntmps 140

theorem qfre_3 : E.sr 3 rfre_3 = true := by kernel_rfl
theorem zfre_3 : E.mkr 3 rfre_3 = false := by kernel_rfl
theorem qfre_103 : srTab rfre_3 = [(58, some (58, .tmp 16)), (58, some (58, .tmp 18))] := by kernel_rfl
theorem qfre_4 : E.sr 4 rfre_4 = true := by kernel_rfl
theorem zfre_4 : E.mkr 4 rfre_4 = false := by kernel_rfl
theorem qfre_104 : srTab rfre_4 = [(56, some (56, .tmp 19)), (56, some (56, .tmp 20))] := by kernel_rfl
theorem callIs5 : callableB E.P 38 = true := by kernel_rfl
theorem callFo5 : callableB E.P 39 = true := by kernel_rfl
theorem callAdd5 : callableB E.P 41 = true := by kernel_rfl
theorem callMul5 : callableB E.P 45 = true := by kernel_rfl
theorem callAbs5 : callableB E.P 49 = true := by kernel_rfl
theorem callSbF : callableB E.P 42 = true := by kernel_rfl
theorem notB' (b : Bool) : apU E.P .not 4 4 (.bool b) = some (.bool !b) := by cases b <;> kernel_rfl
theorem TabP.on {m m' : Mem} (h : TabP m) (hk : Kept m m') : TabP m' := by
  unfold TabP at *
  rw [hk.2 _ (List.getElem?_eq_some_iff.1 h).1]
  exact h
theorem load48on {m m' : Mem} {p X : Nat} (h : m[p]? = some (.row false 58 (c4 (wd 0 X) (wd 1 X) (wd 2 X) (wd 3 X)))) (hk : Kept m m') : aload E.P 58 (.pointer (some ⟨p, 0, none⟩)) m' = some (el X) :=
  load48 (ro := false) (e := 58) (by rw [hk.2 _ (List.getElem?_eq_some_iff.1 h).1]; exact h)

/-- What is asked of the calls. -/
structure ReCalls (slf : Self) : Prop where
  fo : ∀ k, k < 18446744073709551616 → Ans slf 39 [.int .u64 (k : Nat)] (el k)
  ad : ∀ X Y, X < P25519 → Y < P25519 → Ans slf 40 [el X, el Y] (el ((X + Y) % P25519))
  sb : ∀ X Y, X < P25519 → Y < P25519 → AnsT slf 42 [el X, el Y] (el ((X + (P25519 - Y) % P25519) % P25519))
  mu : MulOk slf
  sq : SquareOk slf
  ng : ∀ X, X < P25519 → AnsT slf 47 [el X] (el ((P25519 - X) % P25519))
  ab : ∀ X, X < P25519 → AnsT slf 48 [el X] (el (absF X))
  cs : CSmall slf
  is : CIs5 slf
  ra : CAdd5 slf
  rs : CSub5 slf
  rm : CMul5 slf
  rb : CAbs5 slf
theorem mod_lt' (x : Nat) : x % p5 < p5 := Nat.mod_lt _ (by decide +kernel)
theorem sub_mod {X Y : Nat} (hY : Y < P25519) : (X + (P25519 - Y) % P25519) % P25519 = (X + P25519 - Y) % P25519 := by
  rw [Nat.add_mod_mod]
  congr 1
  omega
theorem CIs5.yes {self : Self} (h : CIs5 self) {m : Mem} {a : Value} {X y : Nat} (hN : NumA m a (dig y)) (hy : y < p5) (e : X = y) : ainv E self 38 [el X, a] m = some (.bool true, m) := by
  subst e
  have := h m a X X hN (by rw [p5_eq]; exact hy) hy
  rw [decide_eq_true rfl] at this
  exact this

section
variable {self : Self} {nf : Nat} {m : Mem} {F : Nat → Value} {px py X Y n : Nat} {u v : Value}
theorem fre_8 (rc : ReCalls self) (h2 : F 2 = .int .u64 (n : Nat)) (hn : n < 18446744073709551616) (h7 : F 7 = .pointer (some ⟨px, 0, none⟩)) (h8 : F 8 = .pointer (some ⟨py, 0, none⟩)) (h11 : F 11 = u) (h12 : F 12 = v)
    (gx : m[px]? = some (.row false 58 (c4 (wd 0 X) (wd 1 X) (wd 2 X) (wd 3 X)))) (gy : m[py]? = some (.row false 58 (c4 (wd 0 Y) (wd 1 Y) (wd 2 Y) (wd 3 Y)))) (hX : X < P25519) (hY : Y < P25519) (hu : NumS m u X) (hv : NumA m v (dig Y)) (hT : TabP m) :
    ∃ F' m', acodeN E self nf (.region 8 rfre_8 false) (lst F 140) m = some (.normal, lst F' 140, m') ∧ F' 99 = .bool false ∧ F' 7 = F 7 ∧ F' 8 = F 8 ∧ F' 11 = u ∧ F' 12 = v ∧ Kept m m' := by
  have hX' : X < p5 := by rw [← p5_eq]; exact hX
  have hY' : Y < p5 := by rw [← p5_eq]; exact hY
  have hX9 := Nat.lt_trans hX' p5_lt
  have hY9 := Nat.lt_trans hY' p5_lt
  have x0 := load48on gx (Kept.refl m)
  have i0 := rc.is.yes hu.a hX' rfl
  have f1 := rc.fo n hn
  obtain ⟨v1, m1, e1, r1⟩ := rc.cs m n hn
  have k1 := r1.keeps
  have i1 := rc.is.yes r1.is (Nat.lt_trans hn (by decide +kernel)) (rfl : n = n)
  have x1 := load48on gx k1
  have y1 := load48on gy k1
  have f2 := rc.ad X Y hX hY
  obtain ⟨v2, m2, e2, r2⟩ := rc.ra m1 u v X Y (hu.a.on k1) (hv.on k1) hX9 hY9
  have k2 := k1.trans r2.keeps
  have i2 := rc.is.yes r2.is (mod_lt' _) (show (X + Y) % P25519 = (X + Y) % p5 by rw [p5_eq])
  have x2 := load48on gx k2
  have y2 := load48on gy k2
  have f3 := rc.sb X Y hX hY m2 (hT.on k2)
  obtain ⟨v3, m3, e3, r3⟩ := rc.rs m2 u v X Y (hu.a.on k2) (hv.on k2) hX9 (Nat.le_of_lt hY')
  have k3 := k2.trans r3.keeps
  have i3 := rc.is.yes r3.is (mod_lt' _) (show (X + (P25519 - Y) % P25519) % P25519 = (X + p5 - Y) % p5 by rw [sub_mod hY, p5_eq])
  have x3 := load48on gx k3
  have y3 := load48on gy k3
  have f4 := rc.mu X Y hX hY
  obtain ⟨v4, m4, e4, r4⟩ := rc.rm m3 u v X Y (hu.a.on k3) (hv.on k3) hX9 hY9
  have k4 := k3.trans r4.keeps
  have i4 := rc.is.yes r4.is (mod_lt' _) (show X * Y % P25519 = X * Y % p5 by rw [p5_eq])
  have x4 := load48on gx k4
  have f5 := rc.sq X hX
  obtain ⟨v5, m5, e5, r5⟩ := rc.rm m4 u u X X (hu.a.on k4) (hu.a.on k4) hX9 hX9
  have k5 := k4.trans r5.keeps
  have i5 := rc.is.yes r5.is (mod_lt' _) (show X * X % P25519 = X * X % p5 by rw [p5_eq])
  have x5 := load48on gx k5
  have f6 := rc.ng X hX m5 (hT.on k5)
  obtain ⟨v6, m6, e6, r6⟩ := rc.rs m5 (.slice none 0 0) u 0 X (by rw [dig_zero]; exact NumA.nil _) (hu.a.on k5) (by decide +kernel) (Nat.le_of_lt hX')
  have k6 := k5.trans r6.keeps
  have i6 := rc.is.yes r6.is (mod_lt' _) (show (P25519 - X) % P25519 = (0 + p5 - X) % p5 by rw [Nat.zero_add, p5_eq])
  have x6 := load48on gx k6
  have f7 := rc.ab X hX m6 (hT.on k6)
  obtain ⟨v7, m7, e7, r7, k7'⟩ := rc.rb m6 u X (hu.on k6) hX'
  have k7 := k6.trans k7'
  have i7 := rc.is.yes r7.a (by split; exact mod_lt' _; exact hX') (show absF X = (if X % 2 = 1 then (p5 - X) % p5 else X) by unfold absF; rw [p5_eq])
  unfold Ans at f1 f2 f4 f5
  generalize el X = eX at *
  generalize el Y = eY at *
  generalize el n = eN at *
  generalize el ((X + Y) % P25519) = e9a at *
  generalize el ((X + (P25519 - Y) % P25519) % P25519) = e9b at *
  generalize el (X * Y % P25519) = e9c at *
  generalize el (X * X % P25519) = e9d at *
  generalize el ((P25519 - X) % P25519) = e9e at *
  generalize el (absF X) = e9f at *
  clear r1 r2 r3 r4 r5 r6 r7 gx gy hu hv
  simp only [↓zfre_3, ↓zfre_4, qfre_103, qfre_104, qfre_3, qfre_4, efre_0, efre_1, efre_10, efre_2, efre_3, efre_4, efre_5, efre_6, efre_7, efre_8, efre_9, lfre_0, lfre_1, lfre_2, lfre_3, lfre_4, lfre_5, lfre_6, lfre_7, lfre_8, lfre_9, lfre_10, gfre_10_13, gfre_10_23, gfre_10_36, gfre_10_5, gfre_8_12, gfre_8_22, gfre_8_32, gfre_8_4, gfre_8_42, gfre_8_51, gfre_8_59, agd_none, gdAt, gdV_bool, gdV_undef, Tryd.f7, List.append_eq, List.cons_append, List.nil_append, apure_call1, apure_call2, apure_call3, bft, btf, acodeN, List.getElem?_toArray, List.getElem?_cons_zero, List.getElem?_cons_succ, aopsN, adrawT, cls, astep, aop, afloat, ev, nth_lst, get_lst, aput, setAt_lst, upd_at, init_zero, init_succ, init_nil, Nat.reduceLT, Nat.reduceEqDiff, reduceIte, len_N, abuiltin_app, Option.map_some, Option.map_none, orElse_some, apure_add, apure_eqlV, eqlVal_str, eqlVal_bool, eqlVal_ptr, eqlVal_slice, eqlVal_wide, eqlVal_int, allT, ↓aop_eqlV, apure_neq, List.map_cons, List.map_nil, List.all_cons, List.all_nil, lit2, lit1, lit0, List.isEmpty_nil, Bool.and_self, Bool.and_true, Bool.true_and, Bool.false_and, Bool.and_false, Bool.not_true, Bool.not_false, Bool.or_true, Bool.true_or, Bool.false_or, Bool.or_false, Bool.false_eq_true, if_true, if_false, List.length_map, beq_self_eq_true, und3, und4, und5, und9, h2, h7, h8, h11, h12, x0, callIs5, i0, apure_un, notB', callFo5, f1, callSml, e1, i1, x1, y1, callAddF, f2, callAdd5, e2, i2, x2, y2, callSbF, f3, callSub5, e3, i3, x3, y3, callMul, f4, callMul5, e4, i4, x4, callSq, f5, e5, i5, x5, callNeg, f6, e6, i6, x6, callAb, f7, callAbs5, e7, i7]
  exact ⟨_, _, rfl, by simp only [upd_at, Nat.reduceEqDiff, reduceIte], by simp only [upd_at, Nat.reduceEqDiff, reduceIte, h7], by simp only [upd_at, Nat.reduceEqDiff, reduceIte, h8], by simp only [upd_at, Nat.reduceEqDiff, reduceIte, h11], by simp only [upd_at, Nat.reduceEqDiff, reduceIte, h12], k7⟩
end
end Go.Am.Seat

/-
  field.Fold over three elements (own work).
-/
set_option linter.unusedSimpArgs false
set_option linter.unusedVariables false
namespace Go.Am.Seat
open Go.Proofs Go.Am Go.Am.Num
set_option maxRecDepth 100000

noncomputable def rfold_0 : Array Oper := match Tryd.f54.body with
  | some (.seq (.region _ o _) _) => o
  | _ => #[]
noncomputable def lfold_0 : List Oper := match Tryd.f54.body with
  | some (.seq (.region _ o _) _) => o.toList
  | _ => []
theorem efold_0 : rfold_0.toList = lfold_0 := rfl
noncomputable def rfold_1 : Array Oper := match Tryd.f54.body with
  | some (.seq _ (.seq (.seq (.region _ o _) _) _)) => o
  | _ => #[]
noncomputable def lfold_1 : List Oper := match Tryd.f54.body with
  | some (.seq _ (.seq (.seq (.region _ o _) _) _)) => o.toList
  | _ => []
theorem efold_1 : rfold_1.toList = lfold_1 := rfl
noncomputable def rfold_2 : Array Oper := match Tryd.f54.body with
  | some (.seq _ (.seq (.seq _ (.cond _ (.seq (.region _ o _) _) _)) _)) => o
  | _ => #[]
noncomputable def lfold_2 : List Oper := match Tryd.f54.body with
  | some (.seq _ (.seq (.seq _ (.cond _ (.seq (.region _ o _) _) _)) _)) => o.toList
  | _ => []
theorem efold_2 : rfold_2.toList = lfold_2 := rfl
noncomputable def rfold_3 : Array Oper := match Tryd.f54.body with
  | some (.seq _ (.seq _ (.seq (.region _ o _) _))) => o
  | _ => #[]
noncomputable def lfold_3 : List Oper := match Tryd.f54.body with
  | some (.seq _ (.seq _ (.seq (.region _ o _) _))) => o.toList
  | _ => []
theorem efold_3 : rfold_3.toList = lfold_3 := rfl
noncomputable def rfold_4 : Array Oper := match Tryd.f54.body with
  | some (.seq _ (.seq _ (.seq _ (.seq (.seq (.region _ o _) _) _)))) => o
  | _ => #[]
noncomputable def lfold_4 : List Oper := match Tryd.f54.body with
  | some (.seq _ (.seq _ (.seq _ (.seq (.seq (.region _ o _) _) _)))) => o.toList
  | _ => []
theorem efold_4 : rfold_4.toList = lfold_4 := rfl
noncomputable def lpfold_0 : Code := match Tryd.f54.body with
  | some (.seq _ (.seq _ (.seq _ (.seq (.seq _ (.block _ (.loop c))) _)))) => c
  | _ => .skip
noncomputable def rfold_5 : Array Oper := match Tryd.f54.body with
  | some (.seq _ (.seq _ (.seq _ (.seq (.seq _ (.block _ (.loop (.seq (.region _ o _) _)))) _)))) => o
  | _ => #[]
noncomputable def lfold_5 : List Oper := match Tryd.f54.body with
  | some (.seq _ (.seq _ (.seq _ (.seq (.seq _ (.block _ (.loop (.seq (.region _ o _) _)))) _)))) => o.toList
  | _ => []
theorem efold_5 : rfold_5.toList = lfold_5 := rfl
noncomputable def rfold_6 : Array Oper := match Tryd.f54.body with
  | some (.seq _ (.seq _ (.seq _ (.seq (.seq _ (.block _ (.loop (.seq _ (.seq _ (.seq (.block _ (.seq (.region _ o _) _)) _)))))) _)))) => o
  | _ => #[]
noncomputable def lfold_6 : List Oper := match Tryd.f54.body with
  | some (.seq _ (.seq _ (.seq _ (.seq (.seq _ (.block _ (.loop (.seq _ (.seq _ (.seq (.block _ (.seq (.region _ o _) _)) _)))))) _)))) => o.toList
  | _ => []
theorem efold_6 : rfold_6.toList = lfold_6 := rfl
noncomputable def rfold_7 : Array Oper := match Tryd.f54.body with
  | some (.seq _ (.seq _ (.seq _ (.seq (.seq _ (.block _ (.loop (.seq _ (.seq _ (.seq (.block _ (.seq _ (.region _ o _))) _)))))) _)))) => o
  | _ => #[]
noncomputable def lfold_7 : List Oper := match Tryd.f54.body with
  | some (.seq _ (.seq _ (.seq _ (.seq (.seq _ (.block _ (.loop (.seq _ (.seq _ (.seq (.block _ (.seq _ (.region _ o _))) _)))))) _)))) => o.toList
  | _ => []
theorem efold_7 : rfold_7.toList = lfold_7 := rfl
noncomputable def rfold_8 : Array Oper := match Tryd.f54.body with
  | some (.seq _ (.seq _ (.seq _ (.seq (.seq _ (.block _ (.loop (.seq _ (.seq _ (.seq _ (.region _ o _))))))) _)))) => o
  | _ => #[]
noncomputable def lfold_8 : List Oper := match Tryd.f54.body with
  | some (.seq _ (.seq _ (.seq _ (.seq (.seq _ (.block _ (.loop (.seq _ (.seq _ (.seq _ (.region _ o _))))))) _)))) => o.toList
  | _ => []
theorem efold_8 : rfold_8.toList = lfold_8 := rfl
theorem lpfold_0_eq : lpfold_0 = (.seq (.region 5 rfold_5 false) (.seq (.cond (.tmp 19) .skip (.exit 0)) (.seq (.block 1 (.seq (.region 6 rfold_6 false) (.region 7 rfold_7 false))) (.region 8 rfold_8 false)))) := rfl
noncomputable def rfold_9 : Array Oper := match Tryd.f54.body with
  | some (.seq _ (.seq _ (.seq _ (.seq _ (.seq (.region _ o _) _))))) => o
  | _ => #[]
noncomputable def lfold_9 : List Oper := match Tryd.f54.body with
  | some (.seq _ (.seq _ (.seq _ (.seq _ (.seq (.region _ o _) _))))) => o.toList
  | _ => []
theorem efold_9 : rfold_9.toList = lfold_9 := rfl
theorem bodyfold : Tryd.f54.body = some (.seq (.region 0 rfold_0 false) (.seq (.seq (.region 1 rfold_1 false) (.cond (.tmp 10) (.seq (.region 2 rfold_2 false) .ret) .skip)) (.seq (.region 3 rfold_3 false) (.seq (.seq (.region 4 rfold_4 false) (.block 0 (.loop lpfold_0))) (.seq (.region 9 rfold_9 false) .ret))))) := rfl
-- ntmps 28

/-- The cells of three elements. -/
def c12 (X Y Z : Nat) : List Value := c4 (wd 0 X) (wd 1 X) (wd 2 X) (wd 3 X) ++ c4 (wd 0 Y) (wd 1 Y) (wd 2 Y) (wd 3 Y) ++ c4 (wd 0 Z) (wd 1 Z) (wd 2 Z) (wd 3 Z)
def fAdd : Value := .func (.func 40) #[] #[]
abbrev rowEl (X : Nat) : Blk := .row false 58 (c4 (wd 0 X) (wd 1 X) (wd 2 X) (wd 3 X))
theorem und102 : E.P.underlying 102 = some (.slice 58) := Tryd.underlying102
theorem ix102 {b o L c j : Nat} (h : j < L) : aindexAddr E.P 102 (.slice (some ⟨b, o, none⟩) L c) (.int .i64 (j : Nat)) = some (.pointer (some ⟨b, o + j * 4, none⟩)) := by
  obtain ⟨i, h1, h2⟩ := info48
  unfold aindexAddr
  simp only [und102, h1]
  rw [if_pos (by omega)]
  simp [h2]
theorem ld12_0 {m : Mem} {q X Y Z : Nat} {ro : Bool} {e : TypeId} (h : m[q]? = some (.row ro e (c12 X Y Z))) : aload E.P 58 (.pointer (some ⟨q, 0, none⟩)) m = some (el X) := by
  obtain ⟨i, h1, h2⟩ := info48
  have hu : E.P.underlying 58 = some (.struct (match E.P.underlying 58 with | some (.struct fs) => fs | _ => #[])) := by kernel_rfl
  unfold aload
  rw [hu]
  simp only [lookRow h, aggD, h1, h2]
  rfl
theorem ld12_4 {m : Mem} {q X Y Z : Nat} {ro : Bool} {e : TypeId} (h : m[q]? = some (.row ro e (c12 X Y Z))) : aload E.P 58 (.pointer (some ⟨q, 4, none⟩)) m = some (el Y) := by
  obtain ⟨i, h1, h2⟩ := info48
  have hu : E.P.underlying 58 = some (.struct (match E.P.underlying 58 with | some (.struct fs) => fs | _ => #[])) := by kernel_rfl
  unfold aload
  rw [hu]
  simp only [lookRow h, aggD, h1, h2]
  rfl
theorem ld12_8 {m : Mem} {q X Y Z : Nat} {ro : Bool} {e : TypeId} (h : m[q]? = some (.row ro e (c12 X Y Z))) : aload E.P 58 (.pointer (some ⟨q, 8, none⟩)) m = some (el Z) := by
  obtain ⟨i, h1, h2⟩ := info48
  have hu : E.P.underlying 58 = some (.struct (match E.P.underlying 58 with | some (.struct fs) => fs | _ => #[])) := by kernel_rfl
  unfold aload
  rw [hu]
  simp only [lookRow h, aggD, h1, h2]
  rfl
theorem sm48 : smallB E.P 58 4 = false := by kernel_rfl
theorem sl12 {m : Mem} {q : Nat} {ro : Bool} {cs : List Value} (h : m[q]? = some (.row ro 58 cs)) : aslice E.P 102 (.slice (some ⟨q, 0, none⟩) 3 3) (some (.int .i64 1)) none m = some (.slice (some ⟨q, 4, none⟩) 2 2) := by
  obtain ⟨i, h1, h2⟩ := info48
  unfold aslice
  simp only [und102, h1, lookRow h]
  unfold abounds abound
  simp only
  rw [if_pos (by omega)]
  simp only
  rw [if_neg (by rw [h2, sm48]; simp)]
  simp [h2]
theorem st48on {m : Mem} {p X Y : Nat} (h : m[p]? = some (rowEl Y)) : astore E.P 58 (.pointer (some ⟨p, 0, none⟩)) (el X) m = some (m.set p (rowEl X)) := store48 h rfl
theorem st48z {m : Mem} {p X : Nat} (h : m[p]? = some (.row false 58 (c4 0 0 0 0))) : astore E.P 58 (.pointer (some ⟨p, 0, none⟩)) (el X) m = some (m.set p (rowEl X)) := store48 h rfl
theorem ld48on {m : Mem} {p X : Nat} (h : m[p]? = some (rowEl X)) : aload E.P 58 (.pointer (some ⟨p, 0, none⟩)) m = some (el X) := load48 (ro := false) (e := 58) h

section
variable {self : Self} {nf : Nat} {m M : Mem} {F : Nat → Value} {q pa pr A Z S i : Nat}
theorem fold_it (h0 : F 0 = fAdd) (h5 : F 5 = .pointer (some ⟨pa, 0, none⟩)) (h16 : F 16 = .slice (some ⟨q, 4, none⟩) 2 2) (h17 : F 17 = .int .i64 2) (h18 : F 18 = .int .i64 (i : Nat)) (hi : i < 2) (hA : M[pa]? = some (rowEl A))
    (hl : aload E.P 58 (.pointer (some ⟨q, 4 + i * 4, none⟩)) M = some (el Z)) (had : Ans self 40 [el A, el Z] (el S)) :
    ∃ F' M', acodeN E self nf lpfold_0 (lst F 28) M = some (.normal, lst F' 28, M') ∧ F' 0 = F 0 ∧ F' 4 = F 4 ∧ F' 5 = F 5 ∧ F' 16 = F 16 ∧ F' 17 = F 17 ∧ F' 18 = .int .i64 ((i + 1 : Nat) : Int) ∧ M'[pa]? = some (rowEl S) ∧ (∀ k, k < M.length → k ≠ pa → M'[k]? = M[k]?) ∧ M.length ≤ M'.length := by
  have hpa := (List.getElem?_eq_some_iff.1 hA).1
  have q1 : decide (((i : Nat) : Int) < 2) = true := decide_eq_true (by omega)
  have i1 := ix102 (b := q) (o := 4) (L := 2) (c := 2) hi
  have b1 := alloc48 M
  obtain ⟨N, hN⟩ : ∃ N, N = M ++ [Blk.row false 58 (c4 0 0 0 0)] := ⟨_, rfl⟩
  rw [← hN] at b1
  have gz : N[M.length]? = some (.row false 58 (c4 0 0 0 0)) := by rw [hN]; simp
  have s1 := st48z (X := Z) gz
  have gA : (N.set M.length (rowEl Z))[pa]? = some (rowEl A) := by rw [List.getElem?_set_ne (by omega), hN, List.getElem?_append_left hpa]; exact hA
  have gZ : (N.set M.length (rowEl Z))[M.length]? = some (rowEl Z) := by rw [List.getElem?_set_self (lt_of_at gz)]
  have l1 := ld48on gA
  have l2 := ld48on gZ
  have s2 := st48on (X := S) gA
  have e1 := w1 (i := i) (by omega)
  unfold Ans at had
  have hfA : fAdd = .func (.func 40) #[] #[] := rfl
  rw [hfA] at h0
  have k1 : ((N.set M.length (rowEl Z)).set pa (rowEl S))[pa]? = some (rowEl S) := by rw [List.getElem?_set_self (lt_of_at gA)]
  have k2 : ∀ k, k < M.length → k ≠ pa → ((N.set M.length (rowEl Z)).set pa (rowEl S))[k]? = M[k]? := fun k hk hp => by rw [List.getElem?_set_ne (fun e => hp e.symm), List.getElem?_set_ne (by omega), hN, List.getElem?_append_left hk]
  have k3 : M.length ≤ ((N.set M.length (rowEl Z)).set pa (rowEl S)).length := by rw [List.length_set, List.length_set, hN]; simp
  generalize (N.set M.length (rowEl Z)).set pa (rowEl S) = W at *
  generalize N.set M.length (rowEl Z) = V at *
  clear gz gA gZ hN hA
  generalize el A = eA at *
  generalize el Z = eZ at *
  generalize el S = eS at *
  simp only [lpfold_0_eq, efold_0, efold_1, efold_2, efold_3, efold_4, efold_5, efold_6, efold_7, efold_8, efold_9, lfold_0, lfold_1, lfold_2, lfold_3, lfold_4, lfold_5, lfold_6, lfold_7, lfold_8, lfold_9, agd_none, gdAt, gdV_bool, gdV_undef, Tryd.f54, List.append_eq, List.cons_append, List.nil_append, apure_call1, apure_call2, apure_call3, bft, btf, acodeN, List.getElem?_toArray, List.getElem?_cons_zero, List.getElem?_cons_succ, aopsN, adrawT, cls, astep, aop, afloat, ev, nth_lst, get_lst, aput, setAt_lst, upd_at, init_zero, init_succ, init_nil, Nat.reduceLT, Nat.reduceEqDiff, reduceIte, abuiltin, alen, Option.map_some, Option.map_none, orElse_some, apure_add, apure_eqlV, eqlVal_str, eqlVal_bool, eqlVal_ptr, eqlVal_slice, eqlVal_wide, eqlVal_int, allT, ↓aop_eqlV, apure_neq, List.map_cons, List.map_nil, List.all_cons, List.all_nil, lit2, lit1, lit0, List.isEmpty_nil, Bool.and_self, Bool.and_true, Bool.true_and, Bool.false_and, Bool.and_false, Bool.not_true, Bool.not_false, Bool.or_true, Bool.true_or, Bool.false_or, Bool.or_false, Bool.false_eq_true, if_true, if_false, List.length_map, beq_self_eq_true, und3, und4, und5, und9, h0, h5, h16, h17, h18, lss64, q1, i1, hl, b1, s1, l1, l2, callAddF, had, s2, add64', e1]
  exact ⟨_, _, rfl, by simp only [upd_at, Nat.reduceEqDiff, reduceIte, h0], by simp only [upd_at, Nat.reduceEqDiff, reduceIte], by simp only [upd_at, Nat.reduceEqDiff, reduceIte, h5], by simp only [upd_at, Nat.reduceEqDiff, reduceIte, h16], by simp only [upd_at, Nat.reduceEqDiff, reduceIte, h17], by simp only [upd_at, Nat.reduceEqDiff, reduceIte], k1, k2, k3⟩
theorem fold_ex (h17 : F 17 = .int .i64 2) (h18 : F 18 = .int .i64 2) : ∃ F', acodeN E self nf lpfold_0 (lst F 28) M = some (.exit 0, lst F' 28, M) ∧ F' 4 = F 4 ∧ F' 5 = F 5 := by
  have q1 : decide ((2 : Int) < 2) = false := rfl
  simp only [lpfold_0_eq, efold_0, efold_1, efold_2, efold_3, efold_4, efold_5, efold_6, efold_7, efold_8, efold_9, lfold_0, lfold_1, lfold_2, lfold_3, lfold_4, lfold_5, lfold_6, lfold_7, lfold_8, lfold_9, agd_none, gdAt, gdV_bool, gdV_undef, Tryd.f54, List.append_eq, List.cons_append, List.nil_append, apure_call1, apure_call2, apure_call3, bft, btf, acodeN, List.getElem?_toArray, List.getElem?_cons_zero, List.getElem?_cons_succ, aopsN, adrawT, cls, astep, aop, afloat, ev, nth_lst, get_lst, aput, setAt_lst, upd_at, init_zero, init_succ, init_nil, Nat.reduceLT, Nat.reduceEqDiff, reduceIte, abuiltin, alen, Option.map_some, Option.map_none, orElse_some, apure_add, apure_eqlV, eqlVal_str, eqlVal_bool, eqlVal_ptr, eqlVal_slice, eqlVal_wide, eqlVal_int, allT, ↓aop_eqlV, apure_neq, List.map_cons, List.map_nil, List.all_cons, List.all_nil, lit2, lit1, lit0, List.isEmpty_nil, Bool.and_self, Bool.and_true, Bool.true_and, Bool.false_and, Bool.and_false, Bool.not_true, Bool.not_false, Bool.or_true, Bool.true_or, Bool.false_or, Bool.or_false, Bool.false_eq_true, if_true, if_false, List.length_map, beq_self_eq_true, und3, und4, und5, und9, h17, h18, lss64, q1]
  exact ⟨_, rfl, by simp only [upd_at, Nat.reduceEqDiff, reduceIte], by simp only [upd_at, Nat.reduceEqDiff, reduceIte]⟩
theorem loop3 {body : List Value → Mem → CRes} {f e : Nat} {T T1 T2 T3 : List Value} {m m1 m2 m3 : Mem} (h1 : body T m = some (.normal, T1, m1)) (h2 : body T1 m1 = some (.normal, T2, m2)) (h3 : body T2 m2 = some (.exit e, T3, m3)) : aloop body (f + 3) T m = some (.exit e, T3, m3) := by
  simp only [aloop, h1, h2, h3]
theorem fold_body {X Y Z S R : Nat} {ro : Bool} (hq : m[q]? = some (.row ro 58 (c12 X Y Z))) (h1 : Ans self 40 [el X, el Y] (el S)) (h2 : Ans self 40 [el S, el Z] (el R)) (hnf : 1000 < nf) :
    ∃ m', abody E self nf 54 [fAdd, .slice (some ⟨q, 0, none⟩) 3 3] m = some (el R, m') := by
  rw [abody_eqF (by kernel_rfl) Tryd.func54 bodyfold (by kernel_rfl) (Nat.le_of_ble_eq_true rfl)]
  rw [show Tryd.f54.ntmps = 28 from rfl]
  have hqm := (List.getElem?_eq_some_iff.1 hq).1
  have b1 := alloc48 m
  obtain ⟨A, hA⟩ : ∃ A, A = m ++ [Blk.row false 58 (c4 0 0 0 0)] := ⟨_, rfl⟩
  rw [← hA] at b1
  have lA : A.length = m.length + 1 := by rw [hA]; simp
  have gqA : A[q]? = some (.row ro 58 (c12 X Y Z)) := by rw [hA, List.getElem?_append_left hqm]; exact hq
  have l0 := ld12_0 gqA
  have b2 := alloc48 A
  rw [lA] at b2
  obtain ⟨N, hN⟩ : ∃ N, N = A ++ [Blk.row false 58 (c4 0 0 0 0)] := ⟨_, rfl⟩
  rw [← hN] at b2
  have gz : N[m.length + 1]? = some (.row false 58 (c4 0 0 0 0)) := by rw [hN, ← lA]; simp
  have s1 := st48z (X := X) gz
  obtain ⟨V, hV⟩ : ∃ V, V = N.set (m.length + 1) (rowEl X) := ⟨_, rfl⟩
  rw [← hV] at s1
  have lV : V.length = m.length + 2 := by rw [hV, List.length_set, hN]; simp [lA]
  have ga : V[m.length + 1]? = some (rowEl X) := by rw [hV, List.getElem?_set_self (lt_of_at gz)]
  have gr : V[m.length]? = some (.row false 58 (c4 0 0 0 0)) := by rw [hV, List.getElem?_set_ne (by omega), hN, List.getElem?_append_left (by omega), hA]; simp
  have gq : V[q]? = some (.row ro 58 (c12 X Y Z)) := by rw [hV, List.getElem?_set_ne (by omega), hN, List.getElem?_append_left (by omega)]; exact gqA
  have sl := sl12 gq
  have i0 := ix102 (b := q) (o := 0) (L := 3) (c := 3) (j := 0) (by omega)
  rw [show (((0 : Nat) : Int)) = 0 from rfl, show 0 + 0 * 4 = 0 from rfl] at i0
  obtain ⟨G, W, r1, g0, g4, g5, g16, g17, g18, ka, ko, kl⟩ := fold_it (self := self) (nf := nf) (M := V) (F := upd (upd (upd (upd (upd (upd (upd (upd (upd (upd (upd (upd (init [fAdd, .slice (some ⟨q, 0, none⟩) 3 3]) 4 (.pointer (some ⟨m.length, 0, none⟩))) 8 (.slice (some ⟨q, 0, none⟩) 3 3)) 9 (.int .i64 3)) 10 (.bool false)) 12 (.slice (some ⟨q, 0, none⟩) 3 3)) 13 (.pointer (some ⟨q, 0, none⟩))) 14 (el X)) 5 (.pointer (some ⟨m.length + 1, 0, none⟩))) 15 (.slice (some ⟨q, 0, none⟩) 3 3)) 16 (.slice (some ⟨q, 4, none⟩) 2 2)) 17 (.int .i64 2)) 18 (.int .i64 0)) (q := q) (pa := m.length + 1) (A := X) (Z := Y) (S := S) (i := 0) rfl rfl rfl rfl rfl (by omega) ga (ld12_4 gq) h1
  obtain ⟨H, U, r2, f0, f4, f5, f16, f17, f18, ja, jo, jl⟩ := fold_it (self := self) (nf := nf) (M := W) (F := G) (q := q) (pa := m.length + 1) (A := S) (Z := Z) (S := R) (i := 1) g0 g5 g16 g17 g18 (by omega) ka (ld12_8 (by rw [ko q (by omega) (by omega)]; exact gq)) h2
  obtain ⟨I, r3, t4, t5⟩ := fold_ex (self := self) (nf := nf) (M := U) (F := H) (f17.trans g17) f18
  obtain ⟨k, rfl⟩ : ∃ k, nf = k + 3 := ⟨nf - 3, by omega⟩
  have hr := loop3 (f := k) r1 r2 r3
  have i4 : I 4 = .pointer (some ⟨m.length, 0, none⟩) := t4.trans (f4.trans g4)
  have i5 : I 5 = .pointer (some ⟨m.length + 1, 0, none⟩) := t5.trans (f5.trans g5)
  have lR := ld48on ja
  have gU : U[m.length]? = some (.row false 58 (c4 0 0 0 0)) := by rw [jo _ (by omega) (by omega), ko _ (by omega) (by omega)]; exact gr
  have sR := st48z (X := R) gU
  have lE : aload E.P 58 (.pointer (some ⟨m.length, 0, none⟩)) (U.set m.length (rowEl R)) = some (el R) := ld48on (by rw [List.getElem?_set_self (lt_of_at gU)])
  generalize U.set m.length (rowEl R) = W9 at *
  have q0 : ((3 : Int) == 0) = false := rfl
  have n3 : (((3 : Nat) : Int)) = 3 := rfl
  have n2 : (((2 : Nat) : Int)) = 2 := rfl
  clear r1 r2 r3 ka ko kl ja jo jl gU gq gr ga gz gqA hq hV hN hA h1 h2
  generalize el R = eR at *
  generalize el X = eX at *
  generalize hfA : fAdd = fv at *
  simp only [efold_0, efold_1, efold_2, efold_3, efold_4, efold_5, efold_6, efold_7, efold_8, efold_9, lfold_0, lfold_1, lfold_2, lfold_3, lfold_4, lfold_5, lfold_6, lfold_7, lfold_8, lfold_9, agd_none, gdAt, gdV_bool, gdV_undef, Tryd.f54, List.append_eq, List.cons_append, List.nil_append, apure_call1, apure_call2, apure_call3, bft, btf, acodeN, List.getElem?_toArray, List.getElem?_cons_zero, List.getElem?_cons_succ, aopsN, adrawT, cls, astep, aop, afloat, ev, nth_lst, get_lst, aput, setAt_lst, upd_at, init_zero, init_succ, init_nil, Nat.reduceLT, Nat.reduceEqDiff, reduceIte, abuiltin, alen, Option.map_some, Option.map_none, orElse_some, apure_add, apure_eqlV, eqlVal_str, eqlVal_bool, eqlVal_ptr, eqlVal_slice, eqlVal_wide, eqlVal_int, allT, ↓aop_eqlV, apure_neq, List.map_cons, List.map_nil, List.all_cons, List.all_nil, lit2, lit1, lit0, List.isEmpty_nil, Bool.and_self, Bool.and_true, Bool.true_and, Bool.false_and, Bool.and_false, Bool.not_true, Bool.not_false, Bool.or_true, Bool.true_or, Bool.false_or, Bool.or_false, Bool.false_eq_true, if_true, if_false, List.length_map, beq_self_eq_true, und3, und4, und5, und9, b1, und102, n3, n2, eql64, q0, i0, l0, b2, s1, sl, hr, i4, i5, lR, sR, lE, finish, ares, aresL, ares1]
  exact ⟨_, rfl⟩
end
end Go.Am.Seat
