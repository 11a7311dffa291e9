/-
  Texts of my own, put together: E9, E10, E11, E12, E13.
-/
import Derived.Test.YtmgknkjdbpgjmaaGreatDoorGrFieldRoots20
set_option linter.unusedSimpArgs false
set_option linter.unusedVariables false
set_option maxRecDepth 100000
namespace Go.Am.Seat
open Go.Proofs Go.Am Go.Am.Num
set_option maxHeartbeats 4000000
noncomputable def rwo_0 : Array Oper := match Tryz.f27.body with
  | some (.seq (.region _ o _) _) => o
  | _ => #[]
noncomputable def lwo_0 : List Oper := match Tryz.f27.body with
  | some (.seq (.region _ o _) _) => o.toList
  | _ => []
theorem ewo_0 : rwo_0.toList = lwo_0 := rfl
noncomputable def rwo_1 : Array Oper := match Tryz.f27.body with
  | some (.seq _ (.seq (.region _ o _) _)) => o
  | _ => #[]
noncomputable def lwo_1 : List Oper := match Tryz.f27.body with
  | some (.seq _ (.seq (.region _ o _) _)) => o.toList
  | _ => []
theorem ewo_1 : rwo_1.toList = lwo_1 := rfl
noncomputable def rwo_2 : Array Oper := match Tryz.f27.body with
  | some (.seq _ (.seq _ (.seq (.seq (.region _ o _) _) _))) => o
  | _ => #[]
noncomputable def lwo_2 : List Oper := match Tryz.f27.body with
  | some (.seq _ (.seq _ (.seq (.seq (.region _ o _) _) _))) => o.toList
  | _ => []
theorem ewo_2 : rwo_2.toList = lwo_2 := rfl
noncomputable def lpwo_0 : Code := match Tryz.f27.body with
  | some (.seq _ (.seq _ (.seq (.seq _ (.block _ (.loop c))) _))) => c
  | _ => .skip
noncomputable def rwo_3 : Array Oper := match Tryz.f27.body with
  | some (.seq _ (.seq _ (.seq (.seq _ (.block _ (.loop (.seq (.seq (.region _ o _) _) _)))) _))) => o
  | _ => #[]
noncomputable def lwo_3 : List Oper := match Tryz.f27.body with
  | some (.seq _ (.seq _ (.seq (.seq _ (.block _ (.loop (.seq (.seq (.region _ o _) _) _)))) _))) => o.toList
  | _ => []
theorem ewo_3 : rwo_3.toList = lwo_3 := rfl
noncomputable def rwo_5 : Array Oper := match Tryz.f27.body with
  | some (.seq _ (.seq _ (.seq (.seq _ (.block _ (.loop (.seq _ (.seq (.block _ (.region _ o _)) _))))) _))) => o
  | _ => #[]
noncomputable def lwo_5 : List Oper := match Tryz.f27.body with
  | some (.seq _ (.seq _ (.seq (.seq _ (.block _ (.loop (.seq _ (.seq (.block _ (.region _ o _)) _))))) _))) => o.toList
  | _ => []
theorem ewo_5 : rwo_5.toList = lwo_5 := rfl
noncomputable def rwo_4 : Array Oper := match Tryz.f27.body with
  | some (.seq _ (.seq _ (.seq (.seq _ (.block _ (.loop (.seq _ (.seq _ (.region _ o _)))))) _))) => o
  | _ => #[]
noncomputable def lwo_4 : List Oper := match Tryz.f27.body with
  | some (.seq _ (.seq _ (.seq (.seq _ (.block _ (.loop (.seq _ (.seq _ (.region _ o _)))))) _))) => o.toList
  | _ => []
theorem ewo_4 : rwo_4.toList = lwo_4 := rfl
theorem lpwo_0_eq : lpwo_0 = (.seq (.seq (.region 3 rwo_3 false) (.cond (.tmp 8) .skip (.exit 0))) (.seq (.block 1 (.region 5 rwo_5 false)) (.region 4 rwo_4 false))) := rfl
noncomputable def rwo_6 : Array Oper := match Tryz.f27.body with
  | some (.seq _ (.seq _ (.seq _ (.seq (.region _ o _) _)))) => o
  | _ => #[]
noncomputable def lwo_6 : List Oper := match Tryz.f27.body with
  | some (.seq _ (.seq _ (.seq _ (.seq (.region _ o _) _)))) => o.toList
  | _ => []
theorem ewo_6 : rwo_6.toList = lwo_6 := rfl
theorem bodywo : Tryz.f27.body = some (.seq (.region 0 rwo_0 false) (.seq (.region 1 rwo_1 false) (.seq (.seq (.region 2 rwo_2 false) (.block 0 (.loop lpwo_0))) (.seq (.region 6 rwo_6 false) .ret)))) := rfl
-- ntmps 22
noncomputable def rlo_0 : Array Oper := match Tryz.f5.body with
  | some (.seq (.region _ o _) _) => o
  | _ => #[]
noncomputable def llo_0 : List Oper := match Tryz.f5.body with
  | some (.seq (.region _ o _) _) => o.toList
  | _ => []
theorem elo_0 : rlo_0.toList = llo_0 := rfl
noncomputable def rlo_1 : Array Oper := match Tryz.f5.body with
  | some (.seq _ (.seq (.region _ o _) _)) => o
  | _ => #[]
noncomputable def llo_1 : List Oper := match Tryz.f5.body with
  | some (.seq _ (.seq (.region _ o _) _)) => o.toList
  | _ => []
theorem elo_1 : rlo_1.toList = llo_1 := rfl
theorem dlo_1 {self : Self} {B : Nat} {T : List Value} {m : Mem} {lb : List (Nat × Nat)} {ls : Bool} : adrawN E self rlo_1 B rlo_1.toList 0 T m lb ls = adrawT E self rlo_1 B rlo_1.toList [(false, false), (false, false), (false, false), (false, false), (false, false), (false, false), (false, false), (false, false), (false, false), (false, false), (false, false)] 0 T m lb ls := adraw_tab (by kernel_rfl)
theorem slo_1 : E.sr 1 rlo_1 = false := by kernel_rfl
theorem bodylo : Tryz.f5.body = some (.seq (.region 0 rlo_0 false) (.seq (.region 1 rlo_1 true) .ret)) := rfl
-- ntmps 13
noncomputable def rby_0 : Array Oper := match Tryz.f7.body with
  | some (.seq (.region _ o _) _) => o
  | _ => #[]
noncomputable def lby_0 : List Oper := match Tryz.f7.body with
  | some (.seq (.region _ o _) _) => o.toList
  | _ => []
theorem eby_0 : rby_0.toList = lby_0 := rfl
noncomputable def rby_1 : Array Oper := match Tryz.f7.body with
  | some (.seq _ (.seq (.region _ o _) _)) => o
  | _ => #[]
noncomputable def lby_1 : List Oper := match Tryz.f7.body with
  | some (.seq _ (.seq (.region _ o _) _)) => o.toList
  | _ => []
theorem eby_1 : rby_1.toList = lby_1 := rfl
noncomputable def rby_2 : Array Oper := match Tryz.f7.body with
  | some (.seq _ (.seq _ (.seq (.region _ o _) _))) => o
  | _ => #[]
noncomputable def lby_2 : List Oper := match Tryz.f7.body with
  | some (.seq _ (.seq _ (.seq (.region _ o _) _))) => o.toList
  | _ => []
theorem eby_2 : rby_2.toList = lby_2 := rfl
noncomputable def rby_3 : Array Oper := match Tryz.f7.body with
  | some (.seq _ (.seq _ (.seq _ (.seq (.seq (.region _ o _) _) _)))) => o
  | _ => #[]
noncomputable def lby_3 : List Oper := match Tryz.f7.body with
  | some (.seq _ (.seq _ (.seq _ (.seq (.seq (.region _ o _) _) _)))) => o.toList
  | _ => []
theorem eby_3 : rby_3.toList = lby_3 := rfl
noncomputable def lpby_0 : Code := match Tryz.f7.body with
  | some (.seq _ (.seq _ (.seq _ (.seq (.seq _ (.block _ (.loop c))) _)))) => c
  | _ => .skip
noncomputable def rby_4 : Array Oper := match Tryz.f7.body with
  | some (.seq _ (.seq _ (.seq _ (.seq (.seq _ (.block _ (.loop (.seq (.region _ o _) _)))) _)))) => o
  | _ => #[]
noncomputable def lby_4 : List Oper := match Tryz.f7.body with
  | some (.seq _ (.seq _ (.seq _ (.seq (.seq _ (.block _ (.loop (.seq (.region _ o _) _)))) _)))) => o.toList
  | _ => []
theorem eby_4 : rby_4.toList = lby_4 := rfl
noncomputable def rby_5 : Array Oper := match Tryz.f7.body with
  | some (.seq _ (.seq _ (.seq _ (.seq (.seq _ (.block _ (.loop (.seq _ (.seq _ (.seq (.block _ (.seq (.region _ o _) _)) _)))))) _)))) => o
  | _ => #[]
noncomputable def lby_5 : List Oper := match Tryz.f7.body with
  | some (.seq _ (.seq _ (.seq _ (.seq (.seq _ (.block _ (.loop (.seq _ (.seq _ (.seq (.block _ (.seq (.region _ o _) _)) _)))))) _)))) => o.toList
  | _ => []
theorem eby_5 : rby_5.toList = lby_5 := rfl
noncomputable def rby_6 : Array Oper := match Tryz.f7.body with
  | some (.seq _ (.seq _ (.seq _ (.seq (.seq _ (.block _ (.loop (.seq _ (.seq _ (.seq (.block _ (.seq _ (.region _ o _))) _)))))) _)))) => o
  | _ => #[]
noncomputable def lby_6 : List Oper := match Tryz.f7.body with
  | some (.seq _ (.seq _ (.seq _ (.seq (.seq _ (.block _ (.loop (.seq _ (.seq _ (.seq (.block _ (.seq _ (.region _ o _))) _)))))) _)))) => o.toList
  | _ => []
theorem eby_6 : rby_6.toList = lby_6 := rfl
noncomputable def rby_7 : Array Oper := match Tryz.f7.body with
  | some (.seq _ (.seq _ (.seq _ (.seq (.seq _ (.block _ (.loop (.seq _ (.seq _ (.seq _ (.region _ o _))))))) _)))) => o
  | _ => #[]
noncomputable def lby_7 : List Oper := match Tryz.f7.body with
  | some (.seq _ (.seq _ (.seq _ (.seq (.seq _ (.block _ (.loop (.seq _ (.seq _ (.seq _ (.region _ o _))))))) _)))) => o.toList
  | _ => []
theorem eby_7 : rby_7.toList = lby_7 := rfl
theorem lpby_0_eq : lpby_0 = (.seq (.region 4 rby_4 false) (.seq (.cond (.tmp 16) .skip (.exit 0)) (.seq (.block 1 (.seq (.region 5 rby_5 false) (.region 6 rby_6 false))) (.region 7 rby_7 false)))) := rfl
noncomputable def rby_8 : Array Oper := match Tryz.f7.body with
  | some (.seq _ (.seq _ (.seq _ (.seq _ (.seq (.region _ o _) _))))) => o
  | _ => #[]
noncomputable def lby_8 : List Oper := match Tryz.f7.body with
  | some (.seq _ (.seq _ (.seq _ (.seq _ (.seq (.region _ o _) _))))) => o.toList
  | _ => []
theorem eby_8 : rby_8.toList = lby_8 := rfl
theorem bodyby : Tryz.f7.body = some (.seq (.region 0 rby_0 false) (.seq (.region 1 rby_1 false) (.seq (.region 2 rby_2 false) (.seq (.seq (.region 3 rby_3 false) (.block 0 (.loop lpby_0))) (.seq (.region 8 rby_8 false) .ret))))) := rfl
-- ntmps 31
-- ntmps 13
-- ntmps 5
def accW (b : Nat → Nat) (at_ : Nat) : Nat → Nat
  | 0 => 0
  | n + 1 => accW b at_ n * 256 + b (8 * at_ + (7 - n))
theorem accW_lt {b : Nat → Nat} (hb : ∀ i, b i < 256) (at_ : Nat) : ∀ n, accW b at_ n < 256 ^ n
  | 0 => by simp [accW]
  | n + 1 => by
    have h1 := accW_lt hb at_ n
    have h2 := hb (8 * at_ + (7 - n))
    simp only [accW, Nat.pow_succ]
    omega
theorem shl8 (x : Nat) : abin .shl .u64 ((x : Nat) : Int) .u64 8 = some (.int .u64 ((x * 256 % 18446744073709551616 : Nat) : Int)) := shlU (n := 8) (by decide)
theorem or8W {x y : Nat} (hx : x * 256 < 18446744073709551616) (hy : y < 256) : abin .or .u64 ((x * 256 % 18446744073709551616 : Nat) : Int) .u64 ((y : Nat) : Int) = some (.int .u64 ((x * 256 + y : Nat) : Int)) := by
  rw [Nat.mod_eq_of_lt hx, orN hx (by omega), Nat.mul_comm x 256]
  have := Nat.two_pow_add_eq_or_of_lt (i := 8) (b := y) (by omega) x
  rw [show 2 ^ 8 = 256 from rfl] at this
  rw [← this]
theorem conv5_22b (x : Nat) : aconv E.P 5 25 (.int .u8 ((x : Nat) : Int)) = some (.int .u64 ((x % 18446744073709551616 : Nat) : Int)) := by
  have : aconv E.P 5 25 (.int .u8 ((x : Nat) : Int)) = some (.int .u64 (wrapF .u64 ((x : Nat) : Int))) := by kernel_rfl
  rw [this, wrapU]
theorem conv22_5b (x : Nat) : aconv E.P 25 5 (.int .u64 ((x : Nat) : Int)) = some (.int .u8 ((x % 256 : Nat) : Int)) := by
  have : aconv E.P 25 5 (.int .u64 ((x : Nat) : Int)) = some (.int .u8 (wrapF .u8 ((x : Nat) : Int))) := by kernel_rfl
  rw [this]
  simp only [wrapF]
  congr 2
theorem geq0 (a : Int) : abin .geq .i64 a .i64 0 = some (.bool (decide (a ≥ 0))) := by kernel_rfl
theorem mul8c (a : Int) : abin .mul .i64 8 .i64 a = some (.int .i64 (wrapF .i64 (8 * a))) := by kernel_rfl
theorem sub1c (a : Int) : abin .sub .i64 a .i64 1 = some (.int .i64 (wrapF .i64 (a - 1))) := by kernel_rfl
theorem wrap_neg1 : wrapF .i64 (-1) = -1 := by kernel_rfl
section
variable {self : Self} {nf : Nat} {M : Mem} {F : Nat → Value} {b : Nat → Nat} {k n p : Nat}
theorem iterWo (h1 : F 1 = .int .i64 (k : Nat)) (h2 : F 2 = .pointer (some ⟨p, 0, none⟩)) (h5 : F 5 = .int .u64 ((accW b k n : Nat) : Int)) (h6 : F 6 = .int .i64 (7 - ((n : Nat) : Int))) (hn : n < 8) (hk : k < 4) (hb : ∀ i, b i < 256) (hp : M[p]? = some (.row false 23 (rowK .u8 32 b))) :
    ∃ F', acodeN E self nf lpwo_0 (lst F 22) M = some (.normal, lst F' 22, M) ∧ F' 1 = F 1 ∧ F' 2 = F 2 ∧ F' 5 = .int .u64 ((accW b k (n + 1) : Nat) : Int) ∧ F' 6 = .int .i64 (7 - ((n + 1 : Nat) : Int)) := by
  have hg : decide ((7 - ((n : Nat) : Int)) ≥ 0) = true := decide_eq_true (by omega)
  have e1 : wrapF .i64 (8 * ((k : Nat) : Int)) = ((8 * k : Nat) : Int) := by rw [wrap_i64 (by omega) (by omega)]; omega
  have e2 : wrapF .i64 (((8 * k : Nat) : Int) + (7 - ((n : Nat) : Int))) = ((8 * k + (7 - n) : Nat) : Int) := by rw [wrap_i64 (by omega) (by omega)]; omega
  have e3 : wrapF .i64 (7 - ((n : Nat) : Int) - 1) = 7 - ((n + 1 : Nat) : Int) := by
    by_cases h : n = 7
    · subst h; exact wrap_neg1
    · rw [wrap_i64 (by omega) (by omega)]; omega
  have i1 := a46.ix (p := p) (j := 8 * k + (7 - n)) (by omega)
  have c1 := cellK hp (j := 8 * k + (7 - n)) (by omega)
  have hacc := accW_lt hb k n
  have h8 : accW b k n * 256 < 18446744073709551616 := by
    have : 256 ^ n ≤ 256 ^ 7 := Nat.pow_le_pow_right (by decide) (by omega)
    have e : (256 : Nat) ^ 7 = 72057594037927936 := by decide
    omega
  have hb1 := hb (8 * k + (7 - n))
  have hm : b (8 * k + (7 - n)) % 18446744073709551616 = b (8 * k + (7 - n)) := Nat.mod_eq_of_lt (by omega)
  have o1 := or8W h8 hb1
  have hst : accW b k n * 256 + b (8 * k + (7 - n)) = accW b k (n + 1) := rfl
  generalize accW b k n = A at *
  generalize b (8 * k + (7 - n)) = bb at *
  simp only [lpwo_0_eq, ewo_0, ewo_1, ewo_2, ewo_3, ewo_4, ewo_5, ewo_6, lwo_0, lwo_1, lwo_2, lwo_3, lwo_4, lwo_5, lwo_6, agd_none, gdAt, gdV_bool, gdV_undef, Tryz.f27, List.append_eq, List.cons_append, List.nil_append, apure_call1, apure_call2, apure_call3, bft, btf, acodeN, List.getElem?_toArray, List.getElem?_cons_zero, List.getElem?_cons_succ, aopsN, adrawT, cls, astep, aop, afloat, ev, nth_lst, get_lst, aput, setAt_lst, upd_at, init_zero, init_succ, init_nil, Nat.reduceLT, Nat.reduceEqDiff, reduceIte, abuiltin, alen, Option.map_some, Option.map_none, orElse_some, apure_add, apure_eqlV, eqlVal_str, eqlVal_bool, eqlVal_ptr, eqlVal_slice, eqlVal_wide, eqlVal_int, allT, ↓aop_eqlV, apure_neq, List.map_cons, List.map_nil, List.all_cons, List.all_nil, lit2, lit1, lit0, List.isEmpty_nil, bls, Bool.false_eq_true, if_true, if_false, List.length_map, beq_self_eq_true, uns, h1, h2, h5, h6, geq0, hg, shl8, mul8c, e1, add64', e2, i1, a46.loadE, c1, conv5_22b, hm, o1, sub1c, e3]
  exact ⟨_, rfl, by simp only [upd_at, Nat.reduceEqDiff, reduceIte, h1], by simp only [upd_at, Nat.reduceEqDiff, reduceIte, h2], by simp only [upd_at, Nat.reduceEqDiff, reduceIte, hst], by simp only [upd_at, Nat.reduceEqDiff, reduceIte]⟩
theorem lastWo (h6 : F 6 = .int .i64 (-1)) : ∃ F', acodeN E self nf lpwo_0 (lst F 22) M = some (.exit 0, lst F' 22, M) ∧ F' 5 = F 5 := by
  have hg : decide ((-1 : Int) ≥ 0) = false := rfl
  simp only [lpwo_0_eq, ewo_0, ewo_1, ewo_2, ewo_3, ewo_4, ewo_5, ewo_6, lwo_0, lwo_1, lwo_2, lwo_3, lwo_4, lwo_5, lwo_6, agd_none, gdAt, gdV_bool, gdV_undef, Tryz.f27, List.append_eq, List.cons_append, List.nil_append, apure_call1, apure_call2, apure_call3, bft, btf, acodeN, List.getElem?_toArray, List.getElem?_cons_zero, List.getElem?_cons_succ, aopsN, adrawT, cls, astep, aop, afloat, ev, nth_lst, get_lst, aput, setAt_lst, upd_at, init_zero, init_succ, init_nil, Nat.reduceLT, Nat.reduceEqDiff, reduceIte, abuiltin, alen, Option.map_some, Option.map_none, orElse_some, apure_add, apure_eqlV, eqlVal_str, eqlVal_bool, eqlVal_ptr, eqlVal_slice, eqlVal_wide, eqlVal_int, allT, ↓aop_eqlV, apure_neq, List.map_cons, List.map_nil, List.all_cons, List.all_nil, lit2, lit1, lit0, List.isEmpty_nil, bls, Bool.false_eq_true, if_true, if_false, List.length_map, beq_self_eq_true, uns, h6, geq0, hg]
  exact ⟨_, rfl, by simp only [upd_at, Nat.reduceEqDiff, reduceIte]⟩
theorem loopWo (h1 : F 1 = .int .i64 (k : Nat)) (h2 : F 2 = .pointer (some ⟨p, 0, none⟩)) (h5 : F 5 = .int .u64 0) (h6 : F 6 = .int .i64 7) (hk : k < 4) (hb : ∀ i, b i < 256) (hp : M[p]? = some (.row false 23 (rowK .u8 32 b))) (hf : 20 < nf) :
    ∃ F', aloop (acodeN E self nf lpwo_0) nf (lst F 22) M = some (.exit 0, lst F' 22, M) ∧ F' 5 = .int .u64 ((accW b k 8 : Nat) : Int) := by
  have hloop := aloop_inv (body := acodeN E self nf lpwo_0) (N := 8)
    (I := fun n T m' => m' = M ∧ ∃ G, T = lst G 22 ∧ G 1 = F 1 ∧ G 2 = F 2 ∧ G 5 = .int .u64 ((accW b k n : Nat) : Int) ∧ G 6 = .int .i64 (7 - ((n : Nat) : Int)))
    (Q := fun e T m' => e = .exit 0 ∧ m' = M ∧ ∃ G, T = lst G 22 ∧ G 5 = .int .u64 ((accW b k 8 : Nat) : Int)) (fun n T m' hi hI => by
      obtain ⟨rfl, G, rfl, g1, g2, g5, g6⟩ := hI
      by_cases hlt : n < 8
      · left
        obtain ⟨F', hr, f1, f2, f5, f6⟩ := iterWo (self := self) (nf := nf) (g1.trans h1) (g2.trans h2) g5 g6 hlt hk hb hp
        exact ⟨_, _, hr, hlt, rfl, F', rfl, f1.trans g1, f2.trans g2, f5, f6⟩
      · right
        have : n = 8 := by omega
        subst this
        obtain ⟨F', hr, f5⟩ := lastWo (self := self) (nf := nf) (M := m') (F := G) g6
        exact ⟨_, _, _, hr, by simp, rfl, rfl, F', rfl, f5.trans g5⟩)
  obtain ⟨e, T', M', hr, rfl, rfl, G, rfl, g5⟩ := hloop 8 0 nf (lst F 22) M (by omega) (by omega) ⟨rfl, F, rfl, rfl, rfl, h5, h6⟩
  exact ⟨G, hr, g5⟩
theorem wo_body {m : Mem} (hk : k < 4) (hb : ∀ i, b i < 256) (hf : 20 < nf) : ∃ m', abody E self nf 27 [arrK .u8 32 b, .int .i64 (k : Nat)] m = some (.int .u64 ((accW b k 8 : Nat) : Int), m') := by
  rw [abody_eqF (by kernel_rfl) Tryz.func27 bodywo (by kernel_rfl) (Nat.le_of_ble_eq_true rfl)]
  rw [show Tryz.f27.ntmps = 22 from rfl]
  have b1 := a46.box (w := b) (m := m)
  have gp : (m ++ [Blk.row false 23 (rowK .u8 32 b)])[m.length]? = some (.row false 23 (rowK .u8 32 b)) := by simp
  generalize hM : m ++ [Blk.row false 23 (rowK .u8 32 b)] = M at b1 gp
  obtain ⟨G, hl, g5⟩ := loopWo (self := self) (nf := nf) (M := M) (p := m.length) (k := k) (b := b) (F := upd (upd (upd (upd (init [arrK .u8 32 b, .int .i64 (k : Nat)]) 2 (.pointer (some ⟨m.length, 0, none⟩))) 4 (.int .u64 0)) 5 (.int .u64 0)) 6 (.int .i64 7)) rfl rfl rfl rfl hk hb gp hf
  generalize accW b k 8 = A at *
  simp only [ewo_0, ewo_1, ewo_2, ewo_3, ewo_4, ewo_5, ewo_6, lwo_0, lwo_1, lwo_2, lwo_3, lwo_4, lwo_5, lwo_6, agd_none, gdAt, gdV_bool, gdV_undef, Tryz.f27, List.append_eq, List.cons_append, List.nil_append, apure_call1, apure_call2, apure_call3, bft, btf, acodeN, List.getElem?_toArray, List.getElem?_cons_zero, List.getElem?_cons_succ, aopsN, adrawT, cls, astep, aop, afloat, ev, nth_lst, get_lst, aput, setAt_lst, upd_at, init_zero, init_succ, init_nil, Nat.reduceLT, Nat.reduceEqDiff, reduceIte, abuiltin, alen, Option.map_some, Option.map_none, orElse_some, apure_add, apure_eqlV, eqlVal_str, eqlVal_bool, eqlVal_ptr, eqlVal_slice, eqlVal_wide, eqlVal_int, allT, ↓aop_eqlV, apure_neq, List.map_cons, List.map_nil, List.all_cons, List.all_nil, lit2, lit1, lit0, List.isEmpty_nil, bls, Bool.false_eq_true, if_true, if_false, List.length_map, beq_self_eq_true, uns, b1, hl, g5, finish, ares, aresL, ares1]
  exact ⟨_, rfl⟩
end
end Go.Am.Seat
namespace Go.Am.Seat
open Go.Proofs Go.Am Go.Am.Num
set_option maxHeartbeats 4000000
def looseF (b : Nat → Nat) : Nat := v4 (accW b 0 8) (accW b 1 8) (accW b 2 8) (accW b 3 8 % 9223372036854775808) % P25519
theorem callWo : callableB E.P 27 = true := by kernel_rfl
theorem wrWo : E.wr 27 = false := by kernel_rfl
theorem wrSe : E.wr 26 = false := by kernel_rfl
theorem addr22b : addrT E.P 4 25 = false := by kernel_rfl
section
variable {self : Self} {nf : Nat} {m : Mem} {b : Nat → Nat} {X : Nat}
theorem lo_body (hb : ∀ i, b i < 256) (hwo : ∀ k, k < 4 → Ans self 27 [arrK .u8 32 b, .int .i64 (k : Nat)] (.int .u64 ((accW b k 8 : Nat) : Int))) (hse : SettleOk self) :
    ∃ m', abody E self nf 5 [arrK .u8 32 b] m = some (el (looseF b), m') := by
  rw [abody_eqF (by kernel_rfl) Tryz.func5 bodylo (by kernel_rfl) (Nat.le_of_ble_eq_true rfl)]
  rw [show Tryz.f5.ntmps = 13 from rfl]
  have b1 := a46.box (w := b) (m := m)
  generalize hA : m ++ [Blk.row false 23 (rowK .u8 32 b)] = A at b1
  have lA : A.length = m.length + 1 := by rw [← hA]; simp
  have b3 := alloc48 A
  rw [lA] at b3
  generalize hC : A ++ [Blk.row false 27 (c4 0 0 0 0)] = C at b3
  have gx : C[m.length]? = some (.row false 23 (rowK .u8 32 b)) := by
    rw [← hC, List.getElem?_append_left (by omega), ← hA]; simp
  have gr : C[m.length + 1]? = some (.row false 27 (c4 0 0 0 0)) := by
    rw [← hC, List.getElem?_append_right (by omega), lA]; simp
  have lx : aload E.P 23 (.pointer (some ⟨m.length, 0, none⟩)) (C.map sealed) = some (arrK .u8 32 b) := a46.load (ro := true) (be := 23) (by rw [List.getElem?_map, gx]; rfl)
  have hlt : ∀ k, accW b k 8 < 18446744073709551616 := fun k => accW_lt hb k 8
  have w0 := hwo 0 (by omega)
  have w1 := hwo 1 (by omega)
  have w2 := hwo 2 (by omega)
  have w3 := hwo 3 (by omega)
  have a1 := and63 (hlt 3)
  have cs := hse (accW b 0 8) (accW b 1 8) (accW b 2 8) (accW b 3 8 % 9223372036854775808) 0 (hlt 0) (hlt 1) (hlt 2) (by have := hlt 3; omega) (by decide)
  rw [Nat.zero_mul, Nat.add_zero, show v4 (accW b 0 8) (accW b 1 8) (accW b 2 8) (accW b 3 8 % 9223372036854775808) % P25519 = looseF b from rfl, show (((0 : Nat)) : Int) = 0 from rfl] at cs
  unfold Ans at w0 w1 w2 w3 cs
  simp only [Int.cast_ofNat_Int, Int.natCast_zero, Int.natCast_one] at w0 w1 w2 w3
  generalize looseF b = R at *
  have st := store48 (a := wd 0 R) (b := wd 1 R) (c := wd 2 R) (d := wd 3 R) gr rfl
  have ld := load48 (m := C.set (m.length + 1) (.row false 27 (c4 (wd 0 R) (wd 1 R) (wd 2 R) (wd 3 R)))) (p := m.length + 1) (a := wd 0 R) (b := wd 1 R) (c := wd 2 R) (d := wd 3 R) (by rw [List.getElem?_set_self (lt_of_at gr)])
  rw [← el_st] at st ld
  generalize accW b 0 8 = A0 at *
  generalize accW b 1 8 = A1 at *
  generalize accW b 2 8 = A2 at *
  generalize accW b 3 8 = A3 at *
  simp only [↓dlo_1, ↓slo_1, elo_0, elo_1, llo_0, llo_1, agd_none, gdAt, gdV_bool, gdV_undef, Tryz.f5, List.append_eq, List.cons_append, List.nil_append, apure_call1, apure_call2, apure_call3, bft, btf, acodeN, List.getElem?_toArray, List.getElem?_cons_zero, List.getElem?_cons_succ, aopsN, adrawT, cls, astep, aop, afloat, ev, nth_lst, get_lst, aput, setAt_lst, upd_at, init_zero, init_succ, init_nil, Nat.reduceLT, Nat.reduceEqDiff, reduceIte, abuiltin, alen, Option.map_some, Option.map_none, orElse_some, apure_add, apure_eqlV, eqlVal_str, eqlVal_bool, eqlVal_ptr, eqlVal_slice, eqlVal_wide, eqlVal_int, allT, ↓aop_eqlV, apure_neq, List.map_cons, List.map_nil, List.all_cons, List.all_nil, lit2, lit1, lit0, List.isEmpty_nil, bls, Bool.false_eq_true, if_true, if_false, List.length_map, beq_self_eq_true, uns, b1, b3, lx, callWo, wrWo, addr22b, w0, w1, w2, w3, a1, callSe, wrSe, addr48, cs, st, ld, finish, ares, aresL, ares1]
  exact ⟨_, rfl⟩
def byteX (X i : Nat) : Nat := wd (i / 8) X / 2 ^ (8 * (i % 8)) % 256
theorem byteX_lt (X i : Nat) : byteX X i < 256 := Nat.mod_lt _ (by decide)
theorem a87 : ArrT 53 4 25 .u64 := ⟨Tryz.underlying53, und22, info_of (by kernel_rfl), info_of (by kernel_rfl)⟩
theorem alloc46 (m : Mem) : aalloc E.P 23 m = some (.pointer (some ⟨m.length, 0, none⟩), m ++ [.row false 23 (rowK .u8 32 fun _ => 0)]) := by kernel_rfl
theorem alloc87 (m : Mem) : aalloc E.P 53 m = some (.pointer (some ⟨m.length, 0, none⟩), m ++ [.row false 53 (rowK .u64 4 fun _ => 0)]) := by kernel_rfl
variable {M : Mem} {F : Nat → Value} {i p q : Nat} {w v : Nat → Nat}
theorem iterBy (h3 : F 3 = .pointer (some ⟨p, 0, none⟩)) (h4 : F 4 = .pointer (some ⟨q, 0, none⟩)) (h15 : F 15 = .int .i64 (i : Nat)) (hi : i < 32)
    (hp : M[p]? = some (.row false 53 (rowK .u64 4 w))) (hq : M[q]? = some (.row false 23 (rowK .u8 32 v))) :
    ∃ F', acodeN E self nf lpby_0 (lst F 31) M = some (.normal, lst F' 31, M.set q (.row false 23 (rowK .u8 32 fun j => if j = i then w (i / 8) / 2 ^ (8 * (i % 8)) % 256 else v j))) ∧ F' 2 = F 2 ∧ F' 3 = F 3 ∧ F' 4 = F 4 ∧ F' 15 = .int .i64 ((i + 1 : Nat) : Int) := by
  have hlt : decide (((i : Nat) : Int) < 32) = true := decide_eq_true (by omega)
  have e1 : wrapF .i64 (((i : Nat) : Int).tdiv 8) = ((i / 8 : Nat) : Int) := by
    rw [show ((i : Nat) : Int).tdiv 8 = ((i / 8 : Nat) : Int) from rfl, wrap_i64 (by omega) (by omega)]
  have e2 : ((i : Nat) : Int).tmod 8 = ((i % 8 : Nat) : Int) := rfl
  have e3 : wrapF .i64 (8 * ((i % 8 : Nat) : Int)) = ((8 * (i % 8) : Nat) : Int) := by rw [wrap_i64 (by omega) (by omega)]; omega
  have e4 := w1 (i := i) (by omega)
  have i1 := a87.ix (p := p) (j := i / 8) (by omega)
  have i2 := a46.ix (p := q) (j := i) hi
  have c1 := cellK hp (j := i / 8) (by omega)
  have s1 := shrN (x := w (i / 8)) (n := 8 * (i % 8)) (by omega)
  have st := a46.storeE (x := w (i / 8) / 2 ^ (8 * (i % 8)) % 256) hq hi
  generalize w (i / 8) / 2 ^ (8 * (i % 8)) = Q at *
  generalize w (i / 8) = W at *
  simp only [lpby_0_eq, eby_0, eby_1, eby_2, eby_3, eby_4, eby_5, eby_6, eby_7, eby_8, lby_0, lby_1, lby_2, lby_3, lby_4, lby_5, lby_6, lby_7, lby_8, agd_none, gdAt, gdV_bool, gdV_undef, Tryz.f7, List.append_eq, List.cons_append, List.nil_append, apure_call1, apure_call2, apure_call3, bft, btf, acodeN, List.getElem?_toArray, List.getElem?_cons_zero, List.getElem?_cons_succ, aopsN, adrawT, cls, astep, aop, afloat, ev, nth_lst, get_lst, aput, setAt_lst, upd_at, init_zero, init_succ, init_nil, Nat.reduceLT, Nat.reduceEqDiff, reduceIte, abuiltin, alen, Option.map_some, Option.map_none, orElse_some, apure_add, apure_eqlV, eqlVal_str, eqlVal_bool, eqlVal_ptr, eqlVal_slice, eqlVal_wide, eqlVal_int, allT, ↓aop_eqlV, apure_neq, List.map_cons, List.map_nil, List.all_cons, List.all_nil, lit2, lit1, lit0, List.isEmpty_nil, bls, Bool.false_eq_true, if_true, if_false, List.length_map, beq_self_eq_true, uns, h3, h4, h15, lss64, hlt, quo8, e1, i1, a87.loadE, c1, rem8, e2, mul8c, e3, s1, conv22_5b, i2, st, add64', e4]
  exact ⟨_, rfl, by simp only [upd_at, Nat.reduceEqDiff, reduceIte], by simp only [upd_at, Nat.reduceEqDiff, reduceIte, h3], by simp only [upd_at, Nat.reduceEqDiff, reduceIte, h4], by simp only [upd_at, Nat.reduceEqDiff, reduceIte]⟩
theorem lastBy (h15 : F 15 = .int .i64 (i : Nat)) (hi : 32 ≤ i) : ∃ F', acodeN E self nf lpby_0 (lst F 31) M = some (.exit 0, lst F' 31, M) ∧ F' 2 = F 2 ∧ F' 4 = F 4 := by
  have hlt : decide (((i : Nat) : Int) < 32) = false := decide_eq_false (by omega)
  simp only [lpby_0_eq, eby_0, eby_1, eby_2, eby_3, eby_4, eby_5, eby_6, eby_7, eby_8, lby_0, lby_1, lby_2, lby_3, lby_4, lby_5, lby_6, lby_7, lby_8, agd_none, gdAt, gdV_bool, gdV_undef, Tryz.f7, List.append_eq, List.cons_append, List.nil_append, apure_call1, apure_call2, apure_call3, bft, btf, acodeN, List.getElem?_toArray, List.getElem?_cons_zero, List.getElem?_cons_succ, aopsN, adrawT, cls, astep, aop, afloat, ev, nth_lst, get_lst, aput, setAt_lst, upd_at, init_zero, init_succ, init_nil, Nat.reduceLT, Nat.reduceEqDiff, reduceIte, abuiltin, alen, Option.map_some, Option.map_none, orElse_some, apure_add, apure_eqlV, eqlVal_str, eqlVal_bool, eqlVal_ptr, eqlVal_slice, eqlVal_wide, eqlVal_int, allT, ↓aop_eqlV, apure_neq, List.map_cons, List.map_nil, List.all_cons, List.all_nil, lit2, lit1, lit0, List.isEmpty_nil, bls, Bool.false_eq_true, if_true, if_false, List.length_map, beq_self_eq_true, uns, h15, lss64, hlt]
  exact ⟨_, rfl, by simp only [upd_at, Nat.reduceEqDiff, reduceIte], by simp only [upd_at, Nat.reduceEqDiff, reduceIte]⟩
theorem loopBy (h3 : F 3 = .pointer (some ⟨p, 0, none⟩)) (h4 : F 4 = .pointer (some ⟨q, 0, none⟩)) (h15 : F 15 = .int .i64 0) (hpq : p ≠ q)
    (hp : M[p]? = some (.row false 53 (rowK .u64 4 w))) (hq : M[q]? = some (.row false 23 (rowK .u8 32 fun _ => 0))) (hf : 40 < nf) :
    ∃ F' M', aloop (acodeN E self nf lpby_0) nf (lst F 31) M = some (.exit 0, lst F' 31, M') ∧ F' 2 = F 2 ∧ F' 4 = F 4 ∧ M'[q]? = some (.row false 23 (rowK .u8 32 fun i => w (i / 8) / 2 ^ (8 * (i % 8)) % 256)) ∧ (∀ b, b ≠ q → M'[b]? = M[b]?) := by
  have hloop := aloop_inv (body := acodeN E self nf lpby_0) (N := 32)
    (I := fun i T m' => m'[q]? = some (.row false 23 (rowK .u8 32 fun j => if j < i then w (j / 8) / 2 ^ (8 * (j % 8)) % 256 else 0)) ∧ (∀ b, b ≠ q → m'[b]? = M[b]?) ∧ ∃ G, T = lst G 31 ∧ G 2 = F 2 ∧ G 3 = F 3 ∧ G 4 = F 4 ∧ G 15 = .int .i64 (i : Nat))
    (Q := fun e T m' => e = .exit 0 ∧ m'[q]? = some (.row false 23 (rowK .u8 32 fun i => w (i / 8) / 2 ^ (8 * (i % 8)) % 256)) ∧ (∀ b, b ≠ q → m'[b]? = M[b]?) ∧ ∃ G, T = lst G 31 ∧ G 2 = F 2 ∧ G 4 = F 4) (fun i T m' hi hI => by
      obtain ⟨gq, ho, G, rfl, g2, g3, g4, g15⟩ := hI
      by_cases hlt : i < 32
      · left
        obtain ⟨F', hr, f2, f3, f4, f15⟩ := iterBy (self := self) (nf := nf) (w := w) (g3.trans h3) (g4.trans h4) g15 hlt (by rw [ho p hpq]; exact hp) gq
        refine ⟨_, _, hr, hlt, ?_, fun b hb => by rw [List.getElem?_set_ne (fun e => hb e.symm), ho b hb], F', rfl, f2.trans g2, f3.trans g3, f4.trans g4, f15⟩
        rw [List.getElem?_set_self (lt_of_at gq)]
        refine congrArg (fun l => some (Blk.row false 23 l)) (rowK_ext fun j _ => ?_)
        by_cases hj : j = i
        · subst hj
          rw [if_pos rfl, if_pos (by omega)]
        · rw [if_neg hj]
          by_cases hj2 : j < i
          · rw [if_pos hj2, if_pos (by omega)]
          · rw [if_neg hj2, if_neg (by omega)]
      · right
        obtain ⟨F', hr, f2, f4⟩ := lastBy (self := self) (nf := nf) (M := m') g15 (by omega)
        refine ⟨_, _, _, hr, by simp, rfl, ?_, ho, F', rfl, f2.trans g2, f4.trans g4⟩
        rw [gq]
        exact congrArg (fun l => some (Blk.row false 23 l)) (rowK_ext fun j hj => by rw [if_pos (by omega)]))
  obtain ⟨e, T', M', hr, rfl, gq, ho, G, rfl, g2, g4⟩ := hloop 32 0 nf (lst F 31) M (by omega) (by omega) ⟨by rw [hq]; exact congrArg (fun l => some (Blk.row false 23 l)) (rowK_ext fun j _ => by rw [if_neg (by omega)]), fun _ _ => rfl, F, rfl, rfl, rfl, rfl, h15⟩
  exact ⟨G, M', hr, g2, g4, gq, ho⟩
theorem by_body (hf : 40 < nf) : ∃ m', abody E self nf 7 [el X] m = some (arrK .u8 32 (byteX X), m') := by
  rw [abody_eqF (by kernel_rfl) Tryz.func7 bodyby (by kernel_rfl) (Nat.le_of_ble_eq_true rfl)]
  rw [show Tryz.f7.ntmps = 31 from rfl]
  have b1 := box48 (wd 0 X) (wd 1 X) (wd 2 X) (wd 3 X) m
  generalize hA : m ++ [Blk.row false 27 (c4 (wd 0 X) (wd 1 X) (wd 2 X) (wd 3 X))] = A at b1
  have lA : A.length = m.length + 1 := by rw [← hA]; simp
  have b2 := alloc46 A
  rw [lA] at b2
  generalize hB : A ++ [Blk.row false 23 (rowK .u8 32 fun _ => 0)] = B at b2
  have lB : B.length = m.length + 2 := by rw [← hB]; simp [lA]
  have gx : B[m.length]? = some (.row false 27 (c4 (wd 0 X) (wd 1 X) (wd 2 X) (wd 3 X))) := by
    rw [← hB, List.getElem?_append_left (by omega), ← hA]; simp
  have gr0 : B[m.length + 1]? = some (.row false 23 (rowK .u8 32 fun _ => 0)) := by
    rw [← hB, List.getElem?_append_right (by omega), lA]; simp
  obtain ⟨x0, x1, x2, x3⟩ := cell4 gx
  have b3 := alloc87 B
  rw [lB] at b3
  generalize hC : B ++ [Blk.row false 53 (rowK .u64 4 fun _ => 0)] = C at b3
  have lC : C.length = m.length + 3 := by rw [← hC]; simp [lB]
  have gc : C[m.length + 2]? = some (.row false 53 (rowK .u64 4 fun _ => 0)) := by
    rw [← hC, List.getElem?_append_right (by omega), lB]; simp
  have gr1 : C[m.length + 1]? = some (.row false 23 (rowK .u8 32 fun _ => 0)) := by
    rw [← hC, List.getElem?_append_left (by omega)]; exact gr0
  have st1 : astore E.P 53 (.pointer (some ⟨m.length + 2, 0, none⟩)) (st4 (wd 0 X) (wd 1 X) (wd 2 X) (wd 3 X)) C = some (C.set (m.length + 2) (.row false 53 (rowK .u64 4 fun j => wd j X))) := a87.store (w := fun j => wd j X) (by omega) gc (rowK_length _ _ _)
  obtain ⟨D, hD⟩ : ∃ D, D = C.set (m.length + 2) (.row false 53 (rowK .u64 4 fun j => wd j X)) := ⟨_, rfl⟩
  rw [← hD] at st1
  have lD : D.length = m.length + 3 := by rw [hD]; simp [lC]
  have b4 := alloc46 D
  rw [lD] at b4
  generalize hN : D ++ [Blk.row false 23 (rowK .u8 32 fun _ => 0)] = N at b4
  have gp : N[m.length + 2]? = some (.row false 53 (rowK .u64 4 fun j => wd j X)) := by
    rw [← hN, List.getElem?_append_left (by omega), hD, List.getElem?_set_self (by omega)]
  have gq : N[m.length + 3]? = some (.row false 23 (rowK .u8 32 fun _ => 0)) := by
    rw [← hN, List.getElem?_append_right (by omega), lD]; simp
  have gr : N[m.length + 1]? = some (.row false 23 (rowK .u8 32 fun _ => 0)) := by
    rw [← hN, List.getElem?_append_left (by omega), hD, List.getElem?_set_ne (by omega)]; exact gr1
  obtain ⟨G, M1, hl, g2, g4, kq, ko⟩ := loopBy (self := self) (nf := nf) (M := N) (p := m.length + 2) (q := m.length + 3) (w := fun j => wd j X) (F := upd (upd (upd (upd (upd (upd (upd (upd (upd (upd (upd (upd (upd (upd (init [el X]) 1 (.pointer (some ⟨m.length, 0, none⟩))) 2 (.pointer (some ⟨m.length + 1, 0, none⟩))) 6 (.pointer (some ⟨m.length, 0, none⟩))) 7 (.int .u64 (wd 0 X : Nat))) 8 (.pointer (some ⟨m.length, 1, none⟩))) 9 (.int .u64 (wd 1 X : Nat))) 10 (.pointer (some ⟨m.length, 2, none⟩))) 11 (.int .u64 (wd 2 X : Nat))) 12 (.pointer (some ⟨m.length, 3, none⟩))) 13 (.int .u64 (wd 3 X : Nat))) 14 (st4 (wd 0 X) (wd 1 X) (wd 2 X) (wd 3 X))) 3 (.pointer (some ⟨m.length + 2, 0, none⟩))) 4 (.pointer (some ⟨m.length + 3, 0, none⟩))) 15 (.int .i64 0)) rfl rfl rfl (by omega) gp gq hf
  have g2' : G 2 = .pointer (some ⟨m.length + 1, 0, none⟩) := g2
  have g4' : G 4 = .pointer (some ⟨m.length + 3, 0, none⟩) := g4
  have kq' : M1[m.length + 3]? = some (.row false 23 (rowK .u8 32 (byteX X))) := kq
  have kr : M1[m.length + 1]? = some (.row false 23 (rowK .u8 32 fun _ => 0)) := by rw [ko _ (by omega)]; exact gr
  have ld1 := a46.load kq'
  have st2 := a46.store (w := byteX X) (by omega) kr (rowK_length _ _ _)
  have ld2 : aload E.P 23 (.pointer (some ⟨m.length + 1, 0, none⟩)) (M1.set (m.length + 1) (.row false 23 (rowK .u8 32 (byteX X)))) = some (arrK .u8 32 (byteX X)) := a46.load (by rw [List.getElem?_set_self (lt_of_at kr)])
  generalize byteX X = R at *
  rw [el_st] at hl ⊢
  clear kq kq' kr ko gr gp gq hN hD hC hB hA gr0 gr1 gc gx
  generalize wd 0 X = X0 at *
  generalize wd 1 X = X1 at *
  generalize wd 2 X = X2 at *
  generalize wd 3 X = X3 at *
  simp only [eby_0, eby_1, eby_2, eby_3, eby_4, eby_5, eby_6, eby_7, eby_8, lby_0, lby_1, lby_2, lby_3, lby_4, lby_5, lby_6, lby_7, lby_8, agd_none, gdAt, gdV_bool, gdV_undef, Tryz.f7, List.append_eq, List.cons_append, List.nil_append, apure_call1, apure_call2, apure_call3, bft, btf, acodeN, List.getElem?_toArray, List.getElem?_cons_zero, List.getElem?_cons_succ, aopsN, adrawT, cls, astep, aop, afloat, ev, nth_lst, get_lst, aput, setAt_lst, upd_at, init_zero, init_succ, init_nil, Nat.reduceLT, Nat.reduceEqDiff, reduceIte, abuiltin, alen, Option.map_some, Option.map_none, orElse_some, apure_add, apure_eqlV, eqlVal_str, eqlVal_bool, eqlVal_ptr, eqlVal_slice, eqlVal_wide, eqlVal_int, allT, ↓aop_eqlV, apure_neq, List.map_cons, List.map_nil, List.all_cons, List.all_nil, lit2, lit1, lit0, List.isEmpty_nil, bls, Bool.false_eq_true, if_true, if_false, List.length_map, beq_self_eq_true, uns, b1, b2, fa48_0, fa48_1, fa48_2, fa48_3, load22, x0, x1, x2, x3, apure_build4, build87, b3, st1, b4, hl, g2', g4', ld1, st2, ld2, finish, ares, aresL, ares1]
  exact ⟨_, rfl⟩
end
end Go.Am.Seat
namespace Go.Am.Seat
open Go.Proofs Go.Am Go.Am.Num
set_option maxHeartbeats 4000000
theorem accW_ext {b b' : Nat → Nat} (k : Nat) (h : ∀ i, i < 8 → b (8 * k + i) = b' (8 * k + i)) : ∀ n, n ≤ 8 → accW b k n = accW b' k n
  | 0, _ => rfl
  | n + 1, hn => by
    simp only [accW]
    rw [accW_ext k h n (by omega), h (7 - n) (by omega)]
theorem acc_own {w : Nat} (hw : w < 18446744073709551616) {b : Nat → Nat} {k : Nat} (hb : ∀ i, i < 8 → b (8 * k + i) = w / 2 ^ (8 * i) % 256) : ∀ n, n ≤ 8 → accW b k n = w / 2 ^ (8 * (8 - n))
  | 0, _ => by
    simp only [accW]
    rw [Nat.div_eq_of_lt]
    exact hw
  | n + 1, hn => by
    simp only [accW]
    rw [acc_own hw hb n (by omega), hb (7 - n) (by omega)]
    have e : 8 * (8 - n) = 8 * (7 - n) + 8 := by omega
    rw [e, Nat.pow_add, ← Nat.div_div_eq_div_mul, show 8 - (n + 1) = 7 - n by omega]
    generalize w / 2 ^ (8 * (7 - n)) = q
    omega
theorem acc_byteX (X : Nat) {k : Nat} (hk : k < 4) : accW (byteX X) k 8 = wd k X := by
  have h := acc_own (w := wd k X) (wd_lt k X) (b := byteX X) (k := k) (fun i hi => by
    unfold byteX
    rw [show (8 * k + i) / 8 = k by omega, show (8 * k + i) % 8 = i by omega]) 8 (Nat.le_refl _)
  rw [h]
  simp
theorem loose_byteX {X : Nat} (hX : X < P25519) : looseF (byteX X) = X := by
  unfold looseF
  rw [acc_byteX X (by omega), acc_byteX X (by omega), acc_byteX X (by omega), acc_byteX X (by omega)]
  have hp := p_lt
  have h3 : wd 3 X % 9223372036854775808 = wd 3 X := by rw [wd_3]; omega
  rw [h3, v4_wd (by omega), Nat.mod_eq_of_lt hX]
theorem looseF_lt (b : Nat → Nat) : looseF b < P25519 := Nat.mod_lt _ (by decide)
theorem callLo : callableB E.P 5 = true := by kernel_rfl
theorem callBy : callableB E.P 7 = true := by kernel_rfl
section
variable {self : Self} {nf : Nat} {m : Mem} {X n : Nat}
end
end Go.Am.Seat
namespace Go.Am.Seat
open Go.Proofs Go.Am Go.Am.Num
set_option maxHeartbeats 4000000
noncomputable def rss_0 : Array Oper := match Tryz.f41.body with
  | some (.seq (.region _ o _) _) => o
  | _ => #[]
noncomputable def lss_0 : List Oper := match Tryz.f41.body with
  | some (.seq (.region _ o _) _) => o.toList
  | _ => []
theorem ess_0 : rss_0.toList = lss_0 := rfl
noncomputable def rss_1 : Array Oper := match Tryz.f41.body with
  | some (.seq _ (.seq (.seq (.region _ o _) _) _)) => o
  | _ => #[]
noncomputable def lss_1 : List Oper := match Tryz.f41.body with
  | some (.seq _ (.seq (.seq (.region _ o _) _) _)) => o.toList
  | _ => []
theorem ess_1 : rss_1.toList = lss_1 := rfl
noncomputable def lpss_0 : Code := match Tryz.f41.body with
  | some (.seq _ (.seq (.seq _ (.block _ (.loop c))) _)) => c
  | _ => .skip
noncomputable def rss_2 : Array Oper := match Tryz.f41.body with
  | some (.seq _ (.seq (.seq _ (.block _ (.loop (.seq (.region _ o _) _)))) _)) => o
  | _ => #[]
noncomputable def lss_2 : List Oper := match Tryz.f41.body with
  | some (.seq _ (.seq (.seq _ (.block _ (.loop (.seq (.region _ o _) _)))) _)) => o.toList
  | _ => []
theorem ess_2 : rss_2.toList = lss_2 := rfl
noncomputable def rss_3 : Array Oper := match Tryz.f41.body with
  | some (.seq _ (.seq (.seq _ (.block _ (.loop (.seq _ (.seq _ (.seq (.block _ (.region _ o _)) _)))))) _)) => o
  | _ => #[]
noncomputable def lss_3 : List Oper := match Tryz.f41.body with
  | some (.seq _ (.seq (.seq _ (.block _ (.loop (.seq _ (.seq _ (.seq (.block _ (.region _ o _)) _)))))) _)) => o.toList
  | _ => []
theorem ess_3 : rss_3.toList = lss_3 := rfl
noncomputable def rss_4 : Array Oper := match Tryz.f41.body with
  | some (.seq _ (.seq (.seq _ (.block _ (.loop (.seq _ (.seq _ (.seq _ (.region _ o _))))))) _)) => o
  | _ => #[]
noncomputable def lss_4 : List Oper := match Tryz.f41.body with
  | some (.seq _ (.seq (.seq _ (.block _ (.loop (.seq _ (.seq _ (.seq _ (.region _ o _))))))) _)) => o.toList
  | _ => []
theorem ess_4 : rss_4.toList = lss_4 := rfl
theorem lpss_0_eq : lpss_0 = (.seq (.region 2 rss_2 false) (.seq (.cond (.tmp 7) .skip (.exit 0)) (.seq (.block 1 (.region 3 rss_3 false)) (.region 4 rss_4 false)))) := rfl
noncomputable def rss_5 : Array Oper := match Tryz.f41.body with
  | some (.seq _ (.seq _ (.seq (.region _ o _) _))) => o
  | _ => #[]
noncomputable def lss_5 : List Oper := match Tryz.f41.body with
  | some (.seq _ (.seq _ (.seq (.region _ o _) _))) => o.toList
  | _ => []
theorem ess_5 : rss_5.toList = lss_5 := rfl
theorem bodyss : Tryz.f41.body = some (.seq (.region 0 rss_0 false) (.seq (.seq (.region 1 rss_1 false) (.block 0 (.loop lpss_0))) (.seq (.region 5 rss_5 false) .ret))) := rfl
-- ntmps 12
noncomputable def ron_0 : Array Oper := match Tryz.f42.body with
  | some (.seq (.region _ o _) _) => o
  | _ => #[]
noncomputable def lon_0 : List Oper := match Tryz.f42.body with
  | some (.seq (.region _ o _) _) => o.toList
  | _ => []
theorem eon_0 : ron_0.toList = lon_0 := rfl
noncomputable def ron_1 : Array Oper := match Tryz.f42.body with
  | some (.seq _ (.seq (.region _ o _) _)) => o
  | _ => #[]
noncomputable def lon_1 : List Oper := match Tryz.f42.body with
  | some (.seq _ (.seq (.region _ o _) _)) => o.toList
  | _ => []
theorem eon_1 : ron_1.toList = lon_1 := rfl
noncomputable def ron_2 : Array Oper := match Tryz.f42.body with
  | some (.seq _ (.seq _ (.seq (.seq (.region _ o _) _) _))) => o
  | _ => #[]
noncomputable def lon_2 : List Oper := match Tryz.f42.body with
  | some (.seq _ (.seq _ (.seq (.seq (.region _ o _) _) _))) => o.toList
  | _ => []
theorem eon_2 : ron_2.toList = lon_2 := rfl
noncomputable def lpon_0 : Code := match Tryz.f42.body with
  | some (.seq _ (.seq _ (.seq (.seq _ (.block _ (.loop c))) _))) => c
  | _ => .skip
noncomputable def ron_3 : Array Oper := match Tryz.f42.body with
  | some (.seq _ (.seq _ (.seq (.seq _ (.block _ (.loop (.seq (.seq (.region _ o _) _) _)))) _))) => o
  | _ => #[]
noncomputable def lon_3 : List Oper := match Tryz.f42.body with
  | some (.seq _ (.seq _ (.seq (.seq _ (.block _ (.loop (.seq (.seq (.region _ o _) _) _)))) _))) => o.toList
  | _ => []
theorem eon_3 : ron_3.toList = lon_3 := rfl
noncomputable def ron_5 : Array Oper := match Tryz.f42.body with
  | some (.seq _ (.seq _ (.seq (.seq _ (.block _ (.loop (.seq _ (.seq (.block _ (.seq (.region _ o _) _)) _))))) _))) => o
  | _ => #[]
noncomputable def lon_5 : List Oper := match Tryz.f42.body with
  | some (.seq _ (.seq _ (.seq (.seq _ (.block _ (.loop (.seq _ (.seq (.block _ (.seq (.region _ o _) _)) _))))) _))) => o.toList
  | _ => []
theorem eon_5 : ron_5.toList = lon_5 := rfl
theorem don_5 {self : Self} {B : Nat} {T : List Value} {m : Mem} {lb : List (Nat × Nat)} {ls : Bool} : adrawN E self ron_5 B ron_5.toList 0 T m lb ls = adrawT E self ron_5 B ron_5.toList [(false, false), (false, false), (false, false), (false, false), (false, false), (false, false), (false, false), (false, false), (false, false)] 0 T m lb ls := adraw_tab (by kernel_rfl)
theorem son_5 : E.sr 5 ron_5 = false := by kernel_rfl
noncomputable def ron_6 : Array Oper := match Tryz.f42.body with
  | some (.seq _ (.seq _ (.seq (.seq _ (.block _ (.loop (.seq _ (.seq (.block _ (.seq _ (.seq (.region _ o _) _))) _))))) _))) => o
  | _ => #[]
noncomputable def lon_6 : List Oper := match Tryz.f42.body with
  | some (.seq _ (.seq _ (.seq (.seq _ (.block _ (.loop (.seq _ (.seq (.block _ (.seq _ (.seq (.region _ o _) _))) _))))) _))) => o.toList
  | _ => []
theorem eon_6 : ron_6.toList = lon_6 := rfl
noncomputable def ron_7 : Array Oper := match Tryz.f42.body with
  | some (.seq _ (.seq _ (.seq (.seq _ (.block _ (.loop (.seq _ (.seq (.block _ (.seq _ (.seq _ (.cond _ (.region _ o _) _)))) _))))) _))) => o
  | _ => #[]
noncomputable def lon_7 : List Oper := match Tryz.f42.body with
  | some (.seq _ (.seq _ (.seq (.seq _ (.block _ (.loop (.seq _ (.seq (.block _ (.seq _ (.seq _ (.cond _ (.region _ o _) _)))) _))))) _))) => o.toList
  | _ => []
theorem eon_7 : ron_7.toList = lon_7 := rfl
theorem don_7 {self : Self} {B : Nat} {T : List Value} {m : Mem} {lb : List (Nat × Nat)} {ls : Bool} : adrawN E self ron_7 B ron_7.toList 0 T m lb ls = adrawT E self ron_7 B ron_7.toList [(false, false), (false, false), (false, false), (false, false), (false, false), (false, false), (false, false), (false, false)] 0 T m lb ls := adraw_tab (by kernel_rfl)
theorem son_7 : E.sr 7 ron_7 = false := by kernel_rfl
noncomputable def ron_4 : Array Oper := match Tryz.f42.body with
  | some (.seq _ (.seq _ (.seq (.seq _ (.block _ (.loop (.seq _ (.seq _ (.region _ o _)))))) _))) => o
  | _ => #[]
noncomputable def lon_4 : List Oper := match Tryz.f42.body with
  | some (.seq _ (.seq _ (.seq (.seq _ (.block _ (.loop (.seq _ (.seq _ (.region _ o _)))))) _))) => o.toList
  | _ => []
theorem eon_4 : ron_4.toList = lon_4 := rfl
theorem lpon_0_eq : lpon_0 = (.seq (.seq (.region 3 ron_3 false) (.cond (.tmp 10) .skip (.exit 0))) (.seq (.block 1 (.seq (.region 5 ron_5 true) (.seq (.region 6 ron_6 false) (.cond (.tmp 23) (.region 7 ron_7 true) .skip)))) (.region 4 ron_4 false))) := rfl
noncomputable def ron_8 : Array Oper := match Tryz.f42.body with
  | some (.seq _ (.seq _ (.seq _ (.seq (.region _ o _) _)))) => o
  | _ => #[]
noncomputable def lon_8 : List Oper := match Tryz.f42.body with
  | some (.seq _ (.seq _ (.seq _ (.seq (.region _ o _) _)))) => o.toList
  | _ => []
theorem eon_8 : ron_8.toList = lon_8 := rfl
theorem bodyon : Tryz.f42.body = some (.seq (.region 0 ron_0 false) (.seq (.region 1 ron_1 false) (.seq (.seq (.region 2 ron_2 false) (.block 0 (.loop lpon_0))) (.seq (.region 8 ron_8 false) .ret)))) := rfl
-- ntmps 31
noncomputable def riv_0 : Array Oper := match Tryz.f14.body with
  | some (.seq (.region _ o _) _) => o
  | _ => #[]
noncomputable def liv_0 : List Oper := match Tryz.f14.body with
  | some (.seq (.region _ o _) _) => o.toList
  | _ => []
theorem eiv_0 : riv_0.toList = liv_0 := rfl
noncomputable def riv_1 : Array Oper := match Tryz.f14.body with
  | some (.seq _ (.seq (.region _ o _) _)) => o
  | _ => #[]
noncomputable def liv_1 : List Oper := match Tryz.f14.body with
  | some (.seq _ (.seq (.region _ o _) _)) => o.toList
  | _ => []
theorem eiv_1 : riv_1.toList = liv_1 := rfl
theorem capsLit0 (f : Fn) : capsLit (.func f #[] #[]) = true := rfl
theorem qiv_1 : E.sr 1 riv_1 = true := by kernel_rfl
theorem ziv_1 : E.mkr 1 riv_1 = false := by kernel_rfl
theorem qiv_101 : srTab riv_1 = [(27, some (27, .tmp 10))] := by kernel_rfl
noncomputable def riv_2 : Array Oper := match Tryz.f14.body with
  | some (.seq _ (.seq _ (.seq (.region _ o _) _))) => o
  | _ => #[]
noncomputable def liv_2 : List Oper := match Tryz.f14.body with
  | some (.seq _ (.seq _ (.seq (.region _ o _) _))) => o.toList
  | _ => []
theorem eiv_2 : riv_2.toList = liv_2 := rfl
theorem div_2 {self : Self} {B : Nat} {T : List Value} {m : Mem} {lb : List (Nat × Nat)} {ls : Bool} : adrawN E self riv_2 B riv_2.toList 0 T m lb ls = adrawT E self riv_2 B riv_2.toList [(false, false), (false, false), (false, false), (false, false), (false, false), (false, false)] 0 T m lb ls := adraw_tab (by kernel_rfl)
theorem siv_2 : E.sr 2 riv_2 = false := by kernel_rfl
theorem bodyiv : Tryz.f14.body = some (.seq (.region 0 riv_0 false) (.seq (.region 1 riv_1 true) (.seq (.region 2 riv_2 true) .ret))) := rfl
-- ntmps 16
def pw (X e : Nat) : Nat := X ^ e % P25519
theorem pw_lt (X e : Nat) : pw X e < P25519 := Nat.mod_lt _ (by decide)
theorem pw_mul (X a b : Nat) : pw X a * pw X b % P25519 = pw X (a + b) := by unfold pw; rw [← Nat.mul_mod, ← Nat.pow_add]
theorem pw_sq (X a : Nat) : pw X a * pw X a % P25519 = pw X (2 * a) := by rw [pw_mul, Nat.two_mul]
theorem pw_pow (X a b : Nat) : pw (pw X a) b = pw X (a * b) := by unfold pw; rw [← Nat.pow_mod, ← Nat.pow_mul]
theorem pw_one {X : Nat} (h : X < P25519) : pw X 1 = X := by unfold pw; rw [Nat.pow_one, Nat.mod_eq_of_lt h]
theorem p_lt4 {X : Nat} (h : X < P25519) : X < 115792089237316195423570985008687907853269984665640564039457584007913129639936 := by have := p_lt; omega
def MulOk (self : Self) : Prop := ∀ A B : Nat, A < P25519 → B < P25519 → Ans self 22 [el A, el B] (el (A * B % P25519))
def SquareOk (self : Self) : Prop := ∀ A : Nat, A < P25519 → Ans self 30 [el A] (el (A * A % P25519))
theorem callSq : callableB E.P 30 = true := by kernel_rfl
section
variable {self : Self} {nf : Nat} {M : Mem} {F : Nat → Value} {A i n p : Nat}
theorem iterSs (h2 : F 2 = .pointer (some ⟨p, 0, none⟩)) (h5 : F 5 = .int .i64 (n : Nat)) (h6 : F 6 = .int .i64 (i : Nat)) (hi : i < n) (hn : n < 1000)
    (hp : M[p]? = some (.row false 27 (c4 (wd 0 A) (wd 1 A) (wd 2 A) (wd 3 A)))) (hA : A < P25519) (hsq : SquareOk self) :
    ∃ F' B, acodeN E self nf lpss_0 (lst F 12) M = some (.normal, lst F' 12, M.set p (.row false 27 (c4 (wd 0 B) (wd 1 B) (wd 2 B) (wd 3 B)))) ∧ B = A * A % P25519 ∧ F' 2 = F 2 ∧ F' 4 = F 4 ∧ F' 5 = F 5 ∧ F' 6 = .int .i64 ((i + 1 : Nat) : Int) := by
  have hlt : decide (((i : Nat) : Int) < ((n : Nat) : Int)) = true := decide_eq_true (by omega)
  have e1 := w1 (i := i) (by omega)
  have lx := load48 hp
  have cs := hsq A hA
  obtain ⟨B, hB⟩ : ∃ B, B = A * A % P25519 := ⟨_, rfl⟩
  rw [← hB] at cs
  have st := store48 (a := wd 0 B) (b := wd 1 B) (c := wd 2 B) (d := wd 3 B) hp rfl
  rw [← el_st] at lx st
  unfold Ans at cs
  simp only [lpss_0_eq, ess_0, ess_1, ess_2, ess_3, ess_4, ess_5, lss_0, lss_1, lss_2, lss_3, lss_4, lss_5, agd_none, gdAt, gdV_bool, gdV_undef, Tryz.f41, List.append_eq, List.cons_append, List.nil_append, apure_call1, apure_call2, apure_call3, bft, btf, acodeN, List.getElem?_toArray, List.getElem?_cons_zero, List.getElem?_cons_succ, aopsN, adrawT, cls, astep, aop, afloat, ev, nth_lst, get_lst, aput, setAt_lst, upd_at, init_zero, init_succ, init_nil, Nat.reduceLT, Nat.reduceEqDiff, reduceIte, abuiltin, alen, Option.map_some, Option.map_none, orElse_some, apure_add, apure_eqlV, eqlVal_str, eqlVal_bool, eqlVal_ptr, eqlVal_slice, eqlVal_wide, eqlVal_int, allT, ↓aop_eqlV, apure_neq, List.map_cons, List.map_nil, List.all_cons, List.all_nil, lit2, lit1, lit0, List.isEmpty_nil, bls, Bool.false_eq_true, if_true, if_false, List.length_map, beq_self_eq_true, uns, h2, h5, h6, lss64, hlt, lx, callSq, cs, st, add64', e1]
  exact ⟨_, B, rfl, hB, by simp only [upd_at, Nat.reduceEqDiff, reduceIte, h2], by simp only [upd_at, Nat.reduceEqDiff, reduceIte], by simp only [upd_at, Nat.reduceEqDiff, reduceIte, h5], by simp only [upd_at, Nat.reduceEqDiff, reduceIte]⟩
theorem lastSs (h5 : F 5 = .int .i64 (n : Nat)) (h6 : F 6 = .int .i64 (i : Nat)) (hi : n ≤ i) : ∃ F', acodeN E self nf lpss_0 (lst F 12) M = some (.exit 0, lst F' 12, M) ∧ F' 2 = F 2 ∧ F' 4 = F 4 := by
  have hlt : decide (((i : Nat) : Int) < ((n : Nat) : Int)) = false := decide_eq_false (by omega)
  simp only [lpss_0_eq, ess_0, ess_1, ess_2, ess_3, ess_4, ess_5, lss_0, lss_1, lss_2, lss_3, lss_4, lss_5, agd_none, gdAt, gdV_bool, gdV_undef, Tryz.f41, List.append_eq, List.cons_append, List.nil_append, apure_call1, apure_call2, apure_call3, bft, btf, acodeN, List.getElem?_toArray, List.getElem?_cons_zero, List.getElem?_cons_succ, aopsN, adrawT, cls, astep, aop, afloat, ev, nth_lst, get_lst, aput, setAt_lst, upd_at, init_zero, init_succ, init_nil, Nat.reduceLT, Nat.reduceEqDiff, reduceIte, abuiltin, alen, Option.map_some, Option.map_none, orElse_some, apure_add, apure_eqlV, eqlVal_str, eqlVal_bool, eqlVal_ptr, eqlVal_slice, eqlVal_wide, eqlVal_int, allT, ↓aop_eqlV, apure_neq, List.map_cons, List.map_nil, List.all_cons, List.all_nil, lit2, lit1, lit0, List.isEmpty_nil, bls, Bool.false_eq_true, if_true, if_false, List.length_map, beq_self_eq_true, uns, h5, h6, lss64, hlt]
  exact ⟨_, rfl, by simp only [upd_at, Nat.reduceEqDiff, reduceIte], by simp only [upd_at, Nat.reduceEqDiff, reduceIte]⟩
theorem loopSs (h2 : F 2 = .pointer (some ⟨p, 0, none⟩)) (h5 : F 5 = .int .i64 (n : Nat)) (h6 : F 6 = .int .i64 0) (hn : n < 1000)
    (hp : M[p]? = some (.row false 27 (c4 (wd 0 A) (wd 1 A) (wd 2 A) (wd 3 A)))) (hA : A < P25519) (hsq : SquareOk self) (hf : 1000 < nf) :
    ∃ F' M', aloop (acodeN E self nf lpss_0) nf (lst F 12) M = some (.exit 0, lst F' 12, M') ∧ F' 2 = F 2 ∧ F' 4 = F 4 ∧ (∃ B, B = pw A (2 ^ n) ∧ M'[p]? = some (.row false 27 (c4 (wd 0 B) (wd 1 B) (wd 2 B) (wd 3 B)))) ∧ (∀ b, b ≠ p → M'[b]? = M[b]?) := by
  have hloop := aloop_inv (body := acodeN E self nf lpss_0) (N := n)
    (I := fun i T m' => (∃ B, B = pw A (2 ^ i) ∧ m'[p]? = some (.row false 27 (c4 (wd 0 B) (wd 1 B) (wd 2 B) (wd 3 B)))) ∧ (∀ b, b ≠ p → m'[b]? = M[b]?) ∧ ∃ G, T = lst G 12 ∧ G 2 = F 2 ∧ G 4 = F 4 ∧ G 5 = F 5 ∧ G 6 = .int .i64 (i : Nat))
    (Q := fun e T m' => e = .exit 0 ∧ (∃ B, B = pw A (2 ^ n) ∧ m'[p]? = some (.row false 27 (c4 (wd 0 B) (wd 1 B) (wd 2 B) (wd 3 B)))) ∧ (∀ b, b ≠ p → m'[b]? = M[b]?) ∧ ∃ G, T = lst G 12 ∧ G 2 = F 2 ∧ G 4 = F 4) (fun i T m' hi hI => by
      obtain ⟨⟨B, hB, gp⟩, ho, G, rfl, g2, g4, g5, g6⟩ := hI
      by_cases hlt : i < n
      · left
        obtain ⟨F', B', hr, hB', f2, f4, f5, f6⟩ := iterSs (self := self) (nf := nf) (g2.trans h2) (g5.trans h5) g6 hlt hn gp (hB ▸ pw_lt _ _) hsq
        refine ⟨_, _, hr, hlt, ⟨B', ?_, by rw [List.getElem?_set_self (lt_of_at gp)]⟩, fun b hb => by rw [List.getElem?_set_ne (fun e => hb e.symm), ho b hb], F', rfl, f2.trans g2, f4.trans g4, f5.trans g5, f6⟩
        rw [hB', hB, pw_sq, Nat.pow_succ, Nat.mul_comm]
      · right
        have : i = n := by omega
        subst this
        obtain ⟨F', hr, f2, f4⟩ := lastSs (self := self) (nf := nf) (M := m') (g5.trans h5) g6 (Nat.le_refl _)
        exact ⟨_, _, _, hr, by simp, rfl, ⟨B, hB, gp⟩, ho, F', rfl, f2.trans g2, f4.trans g4⟩)
  obtain ⟨e, T', M', hr, rfl, gp, ho, G, rfl, g2, g4⟩ := hloop n 0 nf (lst F 12) M (by omega) (by omega) ⟨⟨A, by rw [Nat.pow_zero, pw_one hA], hp⟩, fun _ _ => rfl, F, rfl, rfl, rfl, rfl, h6⟩
  exact ⟨G, M', hr, g2, g4, gp, ho⟩
theorem ss_body {m : Mem} (hA : A < P25519) (hn : n < 1000) (hsq : SquareOk self) (hf : 1000 < nf) : ∃ m', abody E self nf 41 [el A, .int .i64 (n : Nat)] m = some (el (pw A (2 ^ n)), m') := by
  rw [abody_eqF (by kernel_rfl) Tryz.func41 bodyss (by kernel_rfl) (Nat.le_of_ble_eq_true rfl)]
  rw [show Tryz.f41.ntmps = 12 from rfl]
  have b1 := box48 (wd 0 A) (wd 1 A) (wd 2 A) (wd 3 A) m
  generalize hX : m ++ [Blk.row false 27 (c4 (wd 0 A) (wd 1 A) (wd 2 A) (wd 3 A))] = X at b1
  have lX : X.length = m.length + 1 := by rw [← hX]; simp
  have b3 := alloc48 X
  rw [lX] at b3
  generalize hC : X ++ [Blk.row false 27 (c4 0 0 0 0)] = C at b3
  have gx : C[m.length]? = some (.row false 27 (c4 (wd 0 A) (wd 1 A) (wd 2 A) (wd 3 A))) := by
    rw [← hC, List.getElem?_append_left (by omega), ← hX]; simp
  have gr : C[m.length + 1]? = some (.row false 27 (c4 0 0 0 0)) := by
    rw [← hC, List.getElem?_append_right (by omega), lX]; simp
  obtain ⟨G, M1, hl, g2, g4, ⟨B, hB, gp⟩, ho⟩ := loopSs (self := self) (nf := nf) (M := C) (p := m.length) (n := n) (F := upd (upd (upd (upd (init [el A, .int .i64 (n : Nat)]) 2 (.pointer (some ⟨m.length, 0, none⟩))) 4 (.pointer (some ⟨m.length + 1, 0, none⟩))) 5 (.int .i64 (n : Nat))) 6 (.int .i64 0)) rfl rfl rfl hn gx hA hsq hf
  have g2' : G 2 = .pointer (some ⟨m.length, 0, none⟩) := g2
  have g4' : G 4 = .pointer (some ⟨m.length + 1, 0, none⟩) := g4
  have kr : M1[m.length + 1]? = some (.row false 27 (c4 0 0 0 0)) := by rw [ho _ (by omega)]; exact gr
  have ld := load48 gp
  have st := store48 (a := wd 0 B) (b := wd 1 B) (c := wd 2 B) (d := wd 3 B) kr rfl
  have ld2 := load48 (m := M1.set (m.length + 1) (.row false 27 (c4 (wd 0 B) (wd 1 B) (wd 2 B) (wd 3 B)))) (p := m.length + 1) (a := wd 0 B) (b := wd 1 B) (c := wd 2 B) (d := wd 3 B) (by rw [List.getElem?_set_self (lt_of_at kr)])
  rw [← el_st] at b1 ld st ld2
  rw [← hB]
  simp only [ess_0, ess_1, ess_2, ess_3, ess_4, ess_5, lss_0, lss_1, lss_2, lss_3, lss_4, lss_5, agd_none, gdAt, gdV_bool, gdV_undef, Tryz.f41, List.append_eq, List.cons_append, List.nil_append, apure_call1, apure_call2, apure_call3, bft, btf, acodeN, List.getElem?_toArray, List.getElem?_cons_zero, List.getElem?_cons_succ, aopsN, adrawT, cls, astep, aop, afloat, ev, nth_lst, get_lst, aput, setAt_lst, upd_at, init_zero, init_succ, init_nil, Nat.reduceLT, Nat.reduceEqDiff, reduceIte, abuiltin, alen, Option.map_some, Option.map_none, orElse_some, apure_add, apure_eqlV, eqlVal_str, eqlVal_bool, eqlVal_ptr, eqlVal_slice, eqlVal_wide, eqlVal_int, allT, ↓aop_eqlV, apure_neq, List.map_cons, List.map_nil, List.all_cons, List.all_nil, lit2, lit1, lit0, List.isEmpty_nil, bls, Bool.false_eq_true, if_true, if_false, List.length_map, beq_self_eq_true, uns, b1, b3, hl, g2', g4', ld, st, ld2, finish, ares, aresL, ares1]
  exact ⟨_, rfl⟩
end
end Go.Am.Seat
namespace Go.Am.Seat
open Go.Proofs Go.Am Go.Am.Num
set_option maxHeartbeats 4000000
theorem callSs : callableB E.P 41 = true := by kernel_rfl
theorem wrSs : E.wr 41 = false := by kernel_rfl
theorem wrSq : E.wr 30 = false := by kernel_rfl
theorem wrMul : E.wr 22 = false := by kernel_rfl
theorem callOn : callableB E.P 42 = true := by kernel_rfl
theorem wrOn : E.wr 42 = false := by kernel_rfl
theorem callLen : callableB E.P 54 = true := by kernel_rfl
def SquaresOk (self : Self) : Prop := ∀ A n : Nat, A < P25519 → n < 1000 → Ans self 41 [el A, .int .i64 (n : Nat)] (el (pw A (2 ^ n)))
theorem mul2c (a : Int) : abin .mul .i64 2 .i64 a = some (.int .i64 (wrapF .i64 (2 * a))) := by kernel_rfl
theorem shr250 {n : Nat} (hn : n ≤ 64) : abin .shr .i64 250 .i64 ((n : Nat) : Int) = some (.int .i64 ((250 / 2 ^ n : Nat) : Int)) := by
  unfold abin
  simp only
  rw [if_neg (by omega), Int.toNat_natCast, show IntKind.i64.bits = 64 from rfl, Nat.min_eq_left hn, Int.fdiv_eq_ediv_of_nonneg _ (by exact Int.natCast_nonneg _)]
  first
    | rfl
    | (congr 2)
def hv : Nat → Nat
  | 0 => 1
  | r + 1 => if 2 * hv r < 250 / 2 ^ (6 - r) then 2 * hv r + 1 else 2 * hv r
section
variable {self : Self} {nf : Nat} {M : Mem} {F : Nat → Value} {X h r p q : Nat}
theorem iterOn (h1 : F 1 = .pointer (some ⟨p, 0, none⟩)) (h3 : F 3 = .pointer (some ⟨q, 0, none⟩)) (h4 : F 4 = .int .i64 (h : Nat)) (h5 : F 5 = .int .i64 (6 - ((r : Nat) : Int))) (hr : r < 7) (hh : h < 400) (hh0 : 0 < h) (hpq : p ≠ q) (hX : X < P25519)
    (hp : M[p]? = some (.row false 27 (c4 (wd 0 X) (wd 1 X) (wd 2 X) (wd 3 X)))) {A : Nat} (hA : A = pw X (2 ^ h - 1)) (hq : M[q]? = some (.row false 27 (c4 (wd 0 A) (wd 1 A) (wd 2 A) (wd 3 A))))
    (hsq : SquareOk self) (hmu : MulOk self) (hss : SquaresOk self) :
    ∃ F' M' h' B, acodeN E self nf lpon_0 (lst F 31) M = some (.normal, lst F' 31, M') ∧ h' = (if 2 * h < 250 / 2 ^ (6 - r) then 2 * h + 1 else 2 * h) ∧ B = pw X (2 ^ h' - 1) ∧ F' 1 = F 1 ∧ F' 2 = F 2 ∧ F' 3 = F 3 ∧ F' 4 = .int .i64 (h' : Nat) ∧ F' 5 = .int .i64 (6 - ((r + 1 : Nat) : Int)) ∧
      M'[q]? = some (.row false 27 (c4 (wd 0 B) (wd 1 B) (wd 2 B) (wd 3 B))) ∧ (∀ b, b ≠ q → M'[b]? = M[b]?) := by
  have hg : decide ((6 - ((r : Nat) : Int)) ≥ 0) = true := decide_eq_true (by omega)
  have e5 : (6 - ((r : Nat) : Int)) = ((6 - r : Nat) : Int) := by omega
  have e6 : wrapF .i64 (((6 - r : Nat) : Int) - 1) = 6 - ((r + 1 : Nat) : Int) := by
    by_cases hr6 : r = 6
    · subst hr6; exact wrap_neg1
    · rw [wrap_i64 (by omega) (by omega)]; omega
  rw [e5] at h5 hg
  have e2 : wrapF .i64 (2 * ((h : Nat) : Int)) = ((2 * h : Nat) : Int) := by rw [wrap_i64 (by omega) (by omega)]; omega
  have e1 : wrapF .i64 (((2 * h : Nat) : Int) + 1) = ((2 * h + 1 : Nat) : Int) := by rw [wrap_i64 (by omega) (by omega)]; omega
  have hAl : A < P25519 := by rw [hA]; exact pw_lt _ _
  have lq : aload E.P 27 (.pointer (some ⟨q, 0, none⟩)) (M.map sealed) = some (st4 (wd 0 A) (wd 1 A) (wd 2 A) (wd 3 A)) := load48 (ro := true) (e := 27) (by rw [List.getElem?_map, hq]; rfl)
  have cs := hss A h hAl (by omega)
  obtain ⟨S, hS⟩ : ∃ S, S = pw A (2 ^ h) := ⟨_, rfl⟩
  rw [← hS] at cs
  have cm := hmu S A (by rw [hS]; exact pw_lt _ _) hAl
  obtain ⟨N, hN⟩ : ∃ N, N = S * A % P25519 := ⟨_, rfl⟩
  rw [← hN] at cm
  have hN2 : N = pw X (2 ^ (2 * h) - 1) := by
    rw [hN, hS, hA, pw_pow, pw_mul]
    congr 1
    have hpos : 1 ≤ 2 ^ h := Nat.one_le_two_pow
    rw [Nat.two_mul, Nat.pow_add, Nat.sub_mul, Nat.one_mul]
    have : 2 ^ h ≤ 2 ^ h * 2 ^ h := Nat.le_mul_of_pos_right _ hpos
    omega
  have st1 := store48 (a := wd 0 N) (b := wd 1 N) (c := wd 2 N) (d := wd 3 N) hq rfl
  obtain ⟨M1, hM1⟩ : ∃ M1, M1 = M.set q (.row false 27 (c4 (wd 0 N) (wd 1 N) (wd 2 N) (wd 3 N))) := ⟨_, rfl⟩
  rw [← hM1] at st1
  have gq1 : M1[q]? = some (.row false 27 (c4 (wd 0 N) (wd 1 N) (wd 2 N) (wd 3 N))) := by rw [hM1, List.getElem?_set_self (lt_of_at hq)]
  have gp1 : M1[p]? = some (.row false 27 (c4 (wd 0 X) (wd 1 X) (wd 2 X) (wd 3 X))) := by rw [hM1, List.getElem?_set_ne (fun e => hpq e.symm)]; exact hp
  have ho1 : ∀ b, b ≠ q → M1[b]? = M[b]? := fun b hb => by rw [hM1, List.getElem?_set_ne (fun e => hb e.symm)]
  have s250 := shr250 (n := 6 - r) (by omega)
  unfold Ans at cs cm
  by_cases hc : 2 * h < 250 / 2 ^ (6 - r)
  · have hlt : decide (((2 * h : Nat) : Int) < ((250 / 2 ^ (6 - r) : Nat) : Int)) = true := decide_eq_true (by omega)
    have lq1 : aload E.P 27 (.pointer (some ⟨q, 0, none⟩)) (M1.map sealed) = some (st4 (wd 0 N) (wd 1 N) (wd 2 N) (wd 3 N)) := load48 (ro := true) (e := 27) (by rw [List.getElem?_map, gq1]; rfl)
    have lp1 : aload E.P 27 (.pointer (some ⟨p, 0, none⟩)) (M1.map sealed) = some (st4 (wd 0 X) (wd 1 X) (wd 2 X) (wd 3 X)) := load48 (ro := true) (e := 27) (by rw [List.getElem?_map, gp1]; rfl)
    have hNl : N < P25519 := by rw [hN2]; exact pw_lt _ _
    have cq := hsq N hNl
    obtain ⟨Y, hY⟩ : ∃ Y, Y = N * N % P25519 := ⟨_, rfl⟩
    rw [← hY] at cq
    have cm2 := hmu Y X (by rw [hY]; exact Nat.mod_lt _ (by decide)) hX
    obtain ⟨Z, hZ⟩ : ∃ Z, Z = Y * X % P25519 := ⟨_, rfl⟩
    rw [← hZ] at cm2
    have hZ2 : Z = pw X (2 ^ (2 * h + 1) - 1) := by
      have hx : Y * X % P25519 = Y * pw X 1 % P25519 := by rw [pw_one hX]
      rw [hZ, hx, hY, hN2, pw_sq, pw_mul]
      congr 1
      have : 1 ≤ 2 ^ (2 * h) := Nat.one_le_two_pow
      rw [Nat.pow_succ]
      omega
    have st2 := store48 (a := wd 0 Z) (b := wd 1 Z) (c := wd 2 Z) (d := wd 3 Z) gq1 rfl
    rw [← el_st] at lq st1 lq1 lp1 st2
    unfold Ans at cq cm2
    clear hS hN hN2 hY hZ hM1
    simp only [lpon_0_eq, ↓don_5, ↓don_7, ↓son_5, ↓son_7, eon_0, eon_1, eon_2, eon_3, eon_4, eon_5, eon_6, eon_7, eon_8, lon_0, lon_1, lon_2, lon_3, lon_4, lon_5, lon_6, lon_7, lon_8, agd_none, gdAt, gdV_bool, gdV_undef, Tryz.f42, List.append_eq, List.cons_append, List.nil_append, apure_call1, apure_call2, apure_call3, bft, btf, acodeN, List.getElem?_toArray, List.getElem?_cons_zero, List.getElem?_cons_succ, aopsN, adrawT, cls, astep, aop, afloat, ev, nth_lst, get_lst, aput, setAt_lst, upd_at, init_zero, init_succ, init_nil, Nat.reduceLT, Nat.reduceEqDiff, reduceIte, abuiltin, alen, Option.map_some, Option.map_none, orElse_some, apure_add, apure_eqlV, eqlVal_str, eqlVal_bool, eqlVal_ptr, eqlVal_slice, eqlVal_wide, eqlVal_int, allT, ↓aop_eqlV, apure_neq, List.map_cons, List.map_nil, List.all_cons, List.all_nil, lit2, lit1, lit0, List.isEmpty_nil, bls, Bool.false_eq_true, if_true, if_false, List.length_map, beq_self_eq_true, uns, h1, h3, h4, h5, geq0, hg, lq, callSs, wrSs, addr48, cs, callMul, wrMul, cm, mul2c, e2, st1, s250, lss64, hlt, lq1, lp1, callSq, wrSq, cq, cm2, add64', e1, st2, sub1c, e6]
    refine ⟨_, _, 2 * h + 1, Z, rfl, by rw [if_pos hc], hZ2, by simp only [upd_at, Nat.reduceEqDiff, reduceIte, h1], by simp only [upd_at, Nat.reduceEqDiff, reduceIte], by simp only [upd_at, Nat.reduceEqDiff, reduceIte, h3], by simp only [upd_at, Nat.reduceEqDiff, reduceIte], by simp only [upd_at, Nat.reduceEqDiff, reduceIte], by rw [List.getElem?_set_self (lt_of_at gq1)], fun b hb => by rw [List.getElem?_set_ne (fun e => hb e.symm), ho1 b hb]⟩
  · have hlt : decide (((2 * h : Nat) : Int) < ((250 / 2 ^ (6 - r) : Nat) : Int)) = false := decide_eq_false (by omega)
    rw [← el_st] at lq st1
    clear hS hN hM1
    simp only [lpon_0_eq, ↓don_5, ↓don_7, ↓son_5, ↓son_7, eon_0, eon_1, eon_2, eon_3, eon_4, eon_5, eon_6, eon_7, eon_8, lon_0, lon_1, lon_2, lon_3, lon_4, lon_5, lon_6, lon_7, lon_8, agd_none, gdAt, gdV_bool, gdV_undef, Tryz.f42, List.append_eq, List.cons_append, List.nil_append, apure_call1, apure_call2, apure_call3, bft, btf, acodeN, List.getElem?_toArray, List.getElem?_cons_zero, List.getElem?_cons_succ, aopsN, adrawT, cls, astep, aop, afloat, ev, nth_lst, get_lst, aput, setAt_lst, upd_at, init_zero, init_succ, init_nil, Nat.reduceLT, Nat.reduceEqDiff, reduceIte, abuiltin, alen, Option.map_some, Option.map_none, orElse_some, apure_add, apure_eqlV, eqlVal_str, eqlVal_bool, eqlVal_ptr, eqlVal_slice, eqlVal_wide, eqlVal_int, allT, ↓aop_eqlV, apure_neq, List.map_cons, List.map_nil, List.all_cons, List.all_nil, lit2, lit1, lit0, List.isEmpty_nil, bls, Bool.false_eq_true, if_true, if_false, List.length_map, beq_self_eq_true, uns, h1, h3, h4, h5, geq0, hg, lq, callSs, wrSs, addr48, cs, callMul, wrMul, cm, mul2c, e2, st1, s250, lss64, hlt, sub1c, e6]
    refine ⟨_, _, 2 * h, N, rfl, by rw [if_neg hc], hN2, by simp only [upd_at, Nat.reduceEqDiff, reduceIte, h1], by simp only [upd_at, Nat.reduceEqDiff, reduceIte], by simp only [upd_at, Nat.reduceEqDiff, reduceIte, h3], by simp only [upd_at, Nat.reduceEqDiff, reduceIte], by simp only [upd_at, Nat.reduceEqDiff, reduceIte], gq1, ho1⟩
theorem lastOn (h5 : F 5 = .int .i64 (-1)) : ∃ F', acodeN E self nf lpon_0 (lst F 31) M = some (.exit 0, lst F' 31, M) ∧ F' 2 = F 2 ∧ F' 3 = F 3 := by
  have hg : decide ((-1 : Int) ≥ 0) = false := rfl
  simp only [lpon_0_eq, ↓don_5, ↓don_7, ↓son_5, ↓son_7, eon_0, eon_1, eon_2, eon_3, eon_4, eon_5, eon_6, eon_7, eon_8, lon_0, lon_1, lon_2, lon_3, lon_4, lon_5, lon_6, lon_7, lon_8, agd_none, gdAt, gdV_bool, gdV_undef, Tryz.f42, List.append_eq, List.cons_append, List.nil_append, apure_call1, apure_call2, apure_call3, bft, btf, acodeN, List.getElem?_toArray, List.getElem?_cons_zero, List.getElem?_cons_succ, aopsN, adrawT, cls, astep, aop, afloat, ev, nth_lst, get_lst, aput, setAt_lst, upd_at, init_zero, init_succ, init_nil, Nat.reduceLT, Nat.reduceEqDiff, reduceIte, abuiltin, alen, Option.map_some, Option.map_none, orElse_some, apure_add, apure_eqlV, eqlVal_str, eqlVal_bool, eqlVal_ptr, eqlVal_slice, eqlVal_wide, eqlVal_int, allT, ↓aop_eqlV, apure_neq, List.map_cons, List.map_nil, List.all_cons, List.all_nil, lit2, lit1, lit0, List.isEmpty_nil, bls, Bool.false_eq_true, if_true, if_false, List.length_map, beq_self_eq_true, uns, h5, geq0, hg]
  exact ⟨_, rfl, by simp only [upd_at, Nat.reduceEqDiff, reduceIte], by simp only [upd_at, Nat.reduceEqDiff, reduceIte]⟩
theorem hv_le : ∀ r, r ≤ 7 → hv r < 400 ∧ 0 < hv r := by decide
theorem hv7 : hv 7 = 250 := by decide
theorem loopOn (h1 : F 1 = .pointer (some ⟨p, 0, none⟩)) (h3 : F 3 = .pointer (some ⟨q, 0, none⟩)) (h4 : F 4 = .int .i64 1) (h5 : F 5 = .int .i64 6) (hpq : p ≠ q) (hX : X < P25519)
    (hp : M[p]? = some (.row false 27 (c4 (wd 0 X) (wd 1 X) (wd 2 X) (wd 3 X)))) (hq : M[q]? = some (.row false 27 (c4 (wd 0 X) (wd 1 X) (wd 2 X) (wd 3 X))))
    (hsq : SquareOk self) (hmu : MulOk self) (hss : SquaresOk self) (hf : 20 < nf) :
    ∃ F' M', aloop (acodeN E self nf lpon_0) nf (lst F 31) M = some (.exit 0, lst F' 31, M') ∧ F' 2 = F 2 ∧ F' 3 = F 3 ∧ (∃ B, B = pw X (2 ^ 250 - 1) ∧ M'[q]? = some (.row false 27 (c4 (wd 0 B) (wd 1 B) (wd 2 B) (wd 3 B)))) ∧ (∀ b, b ≠ q → M'[b]? = M[b]?) := by
  have hloop := aloop_inv (body := acodeN E self nf lpon_0) (N := 7)
    (I := fun r T m' => (∃ B, B = pw X (2 ^ hv r - 1) ∧ m'[q]? = some (.row false 27 (c4 (wd 0 B) (wd 1 B) (wd 2 B) (wd 3 B)))) ∧ (∀ b, b ≠ q → m'[b]? = M[b]?) ∧ ∃ G, T = lst G 31 ∧ G 1 = F 1 ∧ G 2 = F 2 ∧ G 3 = F 3 ∧ G 4 = .int .i64 (hv r : Nat) ∧ G 5 = .int .i64 (6 - ((r : Nat) : Int)))
    (Q := fun e T m' => e = .exit 0 ∧ (∃ B, B = pw X (2 ^ 250 - 1) ∧ m'[q]? = some (.row false 27 (c4 (wd 0 B) (wd 1 B) (wd 2 B) (wd 3 B)))) ∧ (∀ b, b ≠ q → m'[b]? = M[b]?) ∧ ∃ G, T = lst G 31 ∧ G 2 = F 2 ∧ G 3 = F 3) (fun r T m' hi hI => by
      obtain ⟨⟨B, hB, gq⟩, ho, G, rfl, g1, g2, g3, g4, g5⟩ := hI
      by_cases hlt : r < 7
      · left
        obtain ⟨F', M', h', B', hr, hh', hB', f1, f2, f3, f4, f5, k1, k2⟩ := iterOn (self := self) (nf := nf) (g1.trans h1) (g3.trans h3) g4 g5 hlt (hv_le r hi).1 (hv_le r hi).2 hpq hX (by rw [ho p hpq]; exact hp) hB gq hsq hmu hss
        have hhv : h' = hv (r + 1) := hh'
        rw [hhv] at hB' f4
        exact ⟨_, _, hr, hlt, ⟨B', hB', k1⟩, fun b hb => by rw [k2 b hb, ho b hb], F', rfl, f1.trans g1, f2.trans g2, f3.trans g3, f4, f5⟩
      · right
        have : r = 7 := by omega
        subst this
        rw [hv7] at hB
        obtain ⟨F', hr, f2, f3⟩ := lastOn (self := self) (nf := nf) (M := m') (F := G) g5
        exact ⟨_, _, _, hr, by simp, rfl, ⟨B, hB, gq⟩, ho, F', rfl, f2.trans g2, f3.trans g3⟩)
  obtain ⟨e, T', M', hr, rfl, gq, ho, G, rfl, g2, g3⟩ := hloop 7 0 nf (lst F 31) M (by omega) (by omega) ⟨⟨X, by rw [show 2 ^ hv 0 - 1 = 1 from rfl, pw_one hX], hq⟩, fun _ _ => rfl, F, rfl, rfl, rfl, rfl, h4, h5⟩
  exact ⟨G, M', hr, g2, g3, gq, ho⟩
theorem sub2c : abin .sub .i64 8 .i64 2 = some (.int .i64 6) := by kernel_rfl
theorem on_body {m : Mem} (hX : X < P25519) (hsq : SquareOk self) (hmu : MulOk self) (hss : SquaresOk self) (hlen : Ans self 54 [.int .u64 250] (.int .i64 8)) (hf : 20 < nf) :
    ∃ m', abody E self nf 42 [el X] m = some (el (pw X (2 ^ 250 - 1)), m') := by
  rw [abody_eqF (by kernel_rfl) Tryz.func42 bodyon (by kernel_rfl) (Nat.le_of_ble_eq_true rfl)]
  rw [show Tryz.f42.ntmps = 31 from rfl]
  have b1 := box48 (wd 0 X) (wd 1 X) (wd 2 X) (wd 3 X) m
  generalize hA : m ++ [Blk.row false 27 (c4 (wd 0 X) (wd 1 X) (wd 2 X) (wd 3 X))] = A at b1
  have lA : A.length = m.length + 1 := by rw [← hA]; simp
  have b2 := alloc48 A
  rw [lA] at b2
  generalize hB : A ++ [Blk.row false 27 (c4 0 0 0 0)] = B at b2
  have lB : B.length = m.length + 2 := by rw [← hB]; simp [lA]
  have gx : B[m.length]? = some (.row false 27 (c4 (wd 0 X) (wd 1 X) (wd 2 X) (wd 3 X))) := by
    rw [← hB, List.getElem?_append_left (by omega), ← hA]; simp
  have gr : B[m.length + 1]? = some (.row false 27 (c4 0 0 0 0)) := by
    rw [← hB, List.getElem?_append_right (by omega), lA]; simp
  have lx := load48 gx
  have b3 := alloc48 B
  rw [lB] at b3
  generalize hC : B ++ [Blk.row false 27 (c4 0 0 0 0)] = C at b3
  have gc : C[m.length + 2]? = some (.row false 27 (c4 0 0 0 0)) := by
    rw [← hC, List.getElem?_append_right (by omega), lB]; simp
  have st1 := store48 (a := wd 0 X) (b := wd 1 X) (c := wd 2 X) (d := wd 3 X) gc rfl
  obtain ⟨D, hD⟩ : ∃ D, D = C.set (m.length + 2) (.row false 27 (c4 (wd 0 X) (wd 1 X) (wd 2 X) (wd 3 X))) := ⟨_, rfl⟩
  rw [← hD] at st1
  have dx : D[m.length]? = some (.row false 27 (c4 (wd 0 X) (wd 1 X) (wd 2 X) (wd 3 X))) := by
    rw [hD, List.getElem?_set_ne (by omega), ← hC, List.getElem?_append_left (by omega)]; exact gx
  have dr : D[m.length + 1]? = some (.row false 27 (c4 0 0 0 0)) := by
    rw [hD, List.getElem?_set_ne (by omega), ← hC, List.getElem?_append_left (by omega)]; exact gr
  have dc : D[m.length + 2]? = some (.row false 27 (c4 (wd 0 X) (wd 1 X) (wd 2 X) (wd 3 X))) := by
    rw [hD, List.getElem?_set_self (lt_of_at gc)]
  obtain ⟨G, M1, hl, g2, g3, ⟨Z, hZ, gq⟩, ho⟩ := loopOn (self := self) (nf := nf) (M := D) (p := m.length) (q := m.length + 2) (F := upd (upd (upd (upd (upd (upd (upd (upd (init [el X]) 1 (.pointer (some ⟨m.length, 0, none⟩))) 2 (.pointer (some ⟨m.length + 1, 0, none⟩))) 6 (el X)) 3 (.pointer (some ⟨m.length + 2, 0, none⟩))) 4 (.int .i64 1)) 7 (.int .i64 8)) 8 (.int .i64 6)) 5 (.int .i64 6)) rfl rfl rfl rfl (by omega) hX dx dc hsq hmu hss hf
  have g2' : G 2 = .pointer (some ⟨m.length + 1, 0, none⟩) := g2
  have g3' : G 3 = .pointer (some ⟨m.length + 2, 0, none⟩) := g3
  have kr : M1[m.length + 1]? = some (.row false 27 (c4 0 0 0 0)) := by rw [ho _ (by omega)]; exact dr
  have ld := load48 gq
  have st := store48 (a := wd 0 Z) (b := wd 1 Z) (c := wd 2 Z) (d := wd 3 Z) kr rfl
  have ld2 := load48 (m := M1.set (m.length + 1) (.row false 27 (c4 (wd 0 Z) (wd 1 Z) (wd 2 Z) (wd 3 Z)))) (p := m.length + 1) (a := wd 0 Z) (b := wd 1 Z) (c := wd 2 Z) (d := wd 3 Z) (by rw [List.getElem?_set_self (lt_of_at kr)])
  rw [← el_st] at b1 lx st1 ld st ld2
  rw [← hZ]
  unfold Ans at hlen
  simp only [↓don_5, ↓don_7, ↓son_5, ↓son_7, eon_0, eon_1, eon_2, eon_3, eon_4, eon_5, eon_6, eon_7, eon_8, lon_0, lon_1, lon_2, lon_3, lon_4, lon_5, lon_6, lon_7, lon_8, agd_none, gdAt, gdV_bool, gdV_undef, Tryz.f42, List.append_eq, List.cons_append, List.nil_append, apure_call1, apure_call2, apure_call3, bft, btf, acodeN, List.getElem?_toArray, List.getElem?_cons_zero, List.getElem?_cons_succ, aopsN, adrawT, cls, astep, aop, afloat, ev, nth_lst, get_lst, aput, setAt_lst, upd_at, init_zero, init_succ, init_nil, Nat.reduceLT, Nat.reduceEqDiff, reduceIte, abuiltin, alen, Option.map_some, Option.map_none, orElse_some, apure_add, apure_eqlV, eqlVal_str, eqlVal_bool, eqlVal_ptr, eqlVal_slice, eqlVal_wide, eqlVal_int, allT, ↓aop_eqlV, apure_neq, List.map_cons, List.map_nil, List.all_cons, List.all_nil, lit2, lit1, lit0, List.isEmpty_nil, bls, Bool.false_eq_true, if_true, if_false, List.length_map, beq_self_eq_true, uns, b1, b2, lx, b3, st1, callLen, hlen, sub2c, hl, g2', g3', ld, st, ld2, finish, ares, aresL, ares1]
  exact ⟨_, rfl⟩
theorem len64_body {m : Mem} : abody E self nf 70 [.int .u64 250] m = some (.int .i64 8, m) := by kernel_rfl
theorem z48 : zeroB E.P 27 = some (.row false 27 (c4 0 0 0 0)) := by kernel_rfl
theorem el_lit (V : Nat) : lit2 (el V) = true := rfl
theorem lay48 (V : Nat) : astore E.P 27 (.pointer (some ⟨0, 0, none⟩)) (el V) [.row false 27 (c4 0 0 0 0)] = some [.row false 27 (c4 (wd 0 V) (wd 1 V) (wd 2 V) (wd 3 V))] := store48 rfl rfl
theorem iv_body {m : Mem} (hX : X < P25519) (hG : E.G ≤ m.length) (hsq : SquareOk self) (hmu : MulOk self) (hss : SquaresOk self) (hon : Ans self 42 [el X] (el (pw X (2 ^ 250 - 1)))) :
    ∃ m', abody E self nf 14 [el X] m = some (el (pw X (P25519 - 2)), m') := by
  rw [abody_eqF (by kernel_rfl) Tryz.func14 bodyiv (by kernel_rfl) (Nat.le_of_ble_eq_true rfl)]
  rw [show Tryz.f14.ntmps = 16 from rfl]
  have b1 := box48 (wd 0 X) (wd 1 X) (wd 2 X) (wd 3 X) m
  generalize hA : m ++ [Blk.row false 27 (c4 (wd 0 X) (wd 1 X) (wd 2 X) (wd 3 X))] = A at b1
  have lA : A.length = m.length + 1 := by rw [← hA]; simp
  have b2 := alloc48 A
  rw [lA] at b2
  generalize hB : A ++ [Blk.row false 27 (c4 0 0 0 0)] = B at b2
  have lB : B.length = m.length + 2 := by rw [← hB]; simp [lA]
  have gx : B[m.length]? = some (.row false 27 (c4 (wd 0 X) (wd 1 X) (wd 2 X) (wd 3 X))) := by
    rw [← hB, List.getElem?_append_left (by omega), ← hA]; simp
  have gr : B[m.length + 1]? = some (.row false 27 (c4 0 0 0 0)) := by
    rw [← hB, List.getElem?_append_right (by omega), lA]; simp
  have lx : aload E.P 27 (.pointer (some ⟨m.length, 0, none⟩)) (B.map sealed) = some (st4 (wd 0 X) (wd 1 X) (wd 2 X) (wd 3 X)) := load48 (ro := true) (e := 27) (by rw [List.getElem?_map, gx]; rfl)
  have db : decide (m.length < B.length) = true := decide_eq_true (by omega)
  have dG : decide (E.G ≤ B.length) = true := decide_eq_true (by omega)
  have c1 := hss X 3 hX (by omega)
  have c2 := hsq X hX
  rw [show X * X % P25519 = pw X 2 by unfold pw; rw [Nat.pow_two]] at c2
  have c3 := hmu (pw X (2 ^ 3)) (pw X 2) (pw_lt _ _) (pw_lt _ _)
  rw [pw_mul] at c3
  have c4' := hmu (pw X (2 ^ 3 + 2)) X (pw_lt _ _) hX
  rw [show pw X (2 ^ 3 + 2) * X % P25519 = pw X (2 ^ 3 + 2 + 1) by have := pw_mul X (2 ^ 3 + 2) 1; rw [pw_one hX] at this; exact this] at c4'
  have c5 := hss (pw X (2 ^ 250 - 1)) 5 (pw_lt _ _) (by omega)
  rw [pw_pow] at c5
  have c6 := hmu (pw X ((2 ^ 250 - 1) * 2 ^ 5)) (pw X (2 ^ 3 + 2 + 1)) (pw_lt _ _) (pw_lt _ _)
  rw [pw_mul, show (2 ^ 250 - 1) * 2 ^ 5 + (2 ^ 3 + 2 + 1) = P25519 - 2 by decide] at c6
  unfold Ans at c1 c2 c3 c4' c5 c6 hon
  rw [show (((3 : Nat)) : Int) = 3 from rfl] at c1
  rw [show (((5 : Nat)) : Int) = 5 from rfl] at c5
  generalize pw X (2 ^ 3) = Y1 at *
  generalize pw X 2 = Y2 at *
  generalize pw X (2 ^ 3 + 2) = Y3 at *
  generalize pw X (2 ^ 3 + 2 + 1) = Y4 at *
  generalize pw X (2 ^ 250 - 1) = Y5 at *
  generalize pw X ((2 ^ 250 - 1) * 2 ^ 5) = Y6 at *
  generalize pw X (P25519 - 2) = Z at *
  obtain ⟨D, hD⟩ : ∃ D, D = B ++ [Blk.row false 27 (c4 (wd 0 Y4) (wd 1 Y4) (wd 2 Y4) (wd 3 Y4))] := ⟨_, rfl⟩
  have dx : D[m.length]? = some (.row false 27 (c4 (wd 0 X) (wd 1 X) (wd 2 X) (wd 3 X))) := by
    rw [hD, List.getElem?_append_left (by omega)]; exact gx
  have dr : D[m.length + 1]? = some (.row false 27 (c4 0 0 0 0)) := by
    rw [hD, List.getElem?_append_left (by omega)]; exact gr
  have dy : D[m.length + 2]? = some (.row false 27 (c4 (wd 0 Y4) (wd 1 Y4) (wd 2 Y4) (wd 3 Y4))) := by
    rw [hD, List.getElem?_append_right (by omega), lB]; simp
  have l2 : aload E.P 27 (.pointer (some ⟨m.length, 0, none⟩)) (D.map sealed) = some (st4 (wd 0 X) (wd 1 X) (wd 2 X) (wd 3 X)) := load48 (ro := true) (e := 27) (by rw [List.getElem?_map, dx]; rfl)
  have l3 : aload E.P 27 (.pointer (some ⟨m.length + 2, 0, none⟩)) (D.map sealed) = some (st4 (wd 0 Y4) (wd 1 Y4) (wd 2 Y4) (wd 3 Y4)) := load48 (ro := true) (e := 27) (by rw [List.getElem?_map, dy]; rfl)
  have st := store48 (a := wd 0 Z) (b := wd 1 Z) (c := wd 2 Z) (d := wd 3 Z) dr rfl
  have ld2 := load48 (m := D.set (m.length + 1) (.row false 27 (c4 (wd 0 Z) (wd 1 Z) (wd 2 Z) (wd 3 Z)))) (p := m.length + 1) (a := wd 0 Z) (b := wd 1 Z) (c := wd 2 Z) (d := wd 3 Z) (by rw [List.getElem?_set_self (lt_of_at dr)])
  rw [← el_st] at b1 lx l2 l3 st ld2
  rw [← lB] at l3
  simp only [↓div_2, ↓siv_2, ↓ziv_1, qiv_1, qiv_101, eiv_0, eiv_1, eiv_2, liv_0, liv_1, liv_2, agd_none, gdAt, gdV_bool, gdV_undef, Tryz.f14, List.append_eq, List.cons_append, List.nil_append, apure_call1, apure_call2, apure_call3, bft, btf, acodeN, List.getElem?_toArray, List.getElem?_cons_zero, List.getElem?_cons_succ, aopsN, adrawT, cls, astep, aop, afloat, ev, nth_lst, get_lst, aput, setAt_lst, upd_at, init_zero, init_succ, init_nil, Nat.reduceLT, Nat.reduceEqDiff, reduceIte, abuiltin, alen, Option.map_some, Option.map_none, orElse_some, apure_add, apure_eqlV, eqlVal_str, eqlVal_bool, eqlVal_ptr, eqlVal_slice, eqlVal_wide, eqlVal_int, allT, ↓aop_eqlV, apure_neq, List.map_cons, List.map_nil, List.all_cons, List.all_nil, lit2, lit1, lit0, List.isEmpty_nil, bls, Bool.false_eq_true, if_true, if_false, List.length_map, beq_self_eq_true, uns, capsLit0, asr, asrT, contents, content, belowB, isCall, laterOk, eq_self, decide_true, Bool.and_self, b1, b2, lx, db, dG, callSs, wrSs, addr48, c1, callSq, wrSq, c2, callMul, wrMul, c3, c4', ↓el_lit, z48, lay48, Nat.add_zero, ← hD, l2, l3, callOn, wrOn, hon, c5, c6, st, ld2, finish, ares, aresL, ares1]
  exact ⟨_, rfl⟩
end
end Go.Am.Seat
