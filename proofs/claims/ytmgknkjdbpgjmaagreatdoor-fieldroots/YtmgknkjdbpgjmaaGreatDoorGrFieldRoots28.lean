/-
  Texts of my own, put together: F8, FR4, FR5, T, X2.
-/
import Derived.Test.YtmgknkjdbpgjmaaGreatDoorGrFieldRoots27
import Derived.Test.YtmgknkjdbpgjmaaGreatDoorGrFieldRoots22
import Derived.Test.YtmgknkjdbpgjmaaGreatDoorGrFieldRoots25
import Derived.Test.YtmgknkjdbpgjmaaGreatDoorGrFieldRoots26
import Derived.Test.YtmgknkjdbpgjmaaGreatDoorGrFieldRoots8
import Derived.Lib.LaidTab
import Derived.ChangeShapes
import Derived.Test.YtmgknkjdbpgjmaaGreatDoorGrFieldRoots0
set_option linter.unusedSimpArgs false
set_option linter.unusedVariables false
set_option maxRecDepth 100000
namespace Go.Am.Seat
open Go.Proofs Go.Am Go.Am.Num
set_option maxHeartbeats 4000000
theorem more5 : Go.Am.more mem5 mem5r = true := by kernel_rfl
theorem KR_hold (F : Fact) (h : F ∈ KB) : F.holds E.P mem5r := Fact.more more5 (KB_hold F h)
theorem froot_gen (x : Fe) (a b : Nat) : ef (fmul (fpw (fpw x a) b) x) = el (pw (pw x.1 a) b * x.1 % P25519) := rfl
section
variable {MM : Mem} {K : List Fact} (hK : NoF K) {n : Nat}
include hK
theorem feOk (h : 1000 ≤ n) : FeOk (runK E MM K (n + 10)) where
  mul := fun x y M => L_mul (n := n + 7) hK (by omega) x.1 y.1 x.2 y.2 M
  sq := fun x M => L_sq (n := n + 6) hK (by omega) x.1 x.2 M
  rt := fun x M => ans_of (args := [ef x]) (v := ef (froot x)) rfl (by kernel_rfl) rfl (fun m => by
    rw [rk hK (by decide)]
    unfold froot
    rw [froot_gen]
    exact rt_body x.2 (L_mul (n := n + 6) hK (by omega)) (L_ss (n := n + 4) hK (by omega)) (L_on (n := n + 3) hK (by omega) x.1 x.2)) M
  fi := fun M hM => ans_ofR (args := []) (v := ef fI) rfl (by kernel_rfl) rfl (by
    rw [rk hK (by decide)]
    exact fi_body) M hM
  ab := fun x M hM => L_ab (n := n + 6) hK x.1 x.2 M hM.tab
  ng := fun x M hM => L_ng (n := n + 7) hK x.1 x.2 M hM.tab
theorem L_ra (h : 1000 ≤ n) (u v : Fe) : AnsR (runK E MM K (n + 11)) 8 [ef u, ef v] (.tuple ⟨[ef (fabs (rend u v)), .bool (rok u v)]⟩) := ans_ofR rfl (by kernel_rfl) rfl (by
  rw [rk hK (by decide)]
  exact ra_body (feOk hK h) u v)
end
end Go.Am.Seat
namespace Go.Am.Seat
open Go.Proofs Go.Am Go.Am.Num
noncomputable def rfro_0 : Array Oper := match Tryz.f3.body with
  | some (.seq (.region _ o _) _) => o
  | _ => #[]
noncomputable def lfro_0 : List Oper := match Tryz.f3.body with
  | some (.seq (.region _ o _) _) => o.toList
  | _ => []
theorem efro_0 : rfro_0.toList = lfro_0 := rfl
noncomputable def rfro_1 : Array Oper := match Tryz.f3.body with
  | some (.seq _ (.seq (.seq (.region _ o _) _) _)) => o
  | _ => #[]
noncomputable def lfro_1 : List Oper := match Tryz.f3.body with
  | some (.seq _ (.seq (.seq (.region _ o _) _) _)) => o.toList
  | _ => []
theorem efro_1 : rfro_1.toList = lfro_1 := rfl
noncomputable def rfro_2 : Array Oper := match Tryz.f3.body with
  | some (.seq _ (.seq (.seq _ (.cond _ (.seq (.region _ o _) _) _)) _)) => o
  | _ => #[]
noncomputable def lfro_2 : List Oper := match Tryz.f3.body with
  | some (.seq _ (.seq (.seq _ (.cond _ (.seq (.region _ o _) _) _)) _)) => o.toList
  | _ => []
theorem efro_2 : rfro_2.toList = lfro_2 := rfl
noncomputable def rfro_3 : Array Oper := match Tryz.f3.body with
  | some (.seq _ (.seq _ (.seq (.region _ o _) _))) => o
  | _ => #[]
noncomputable def lfro_3 : List Oper := match Tryz.f3.body with
  | some (.seq _ (.seq _ (.seq (.region _ o _) _))) => o.toList
  | _ => []
theorem efro_3 : rfro_3.toList = lfro_3 := rfl
noncomputable def rfro_4 : Array Oper := match Tryz.f3.body with
  | some (.seq _ (.seq _ (.seq _ (.seq (.region _ o _) _)))) => o
  | _ => #[]
noncomputable def lfro_4 : List Oper := match Tryz.f3.body with
  | some (.seq _ (.seq _ (.seq _ (.seq (.region _ o _) _)))) => o.toList
  | _ => []
theorem efro_4 : rfro_4.toList = lfro_4 := rfl
noncomputable def rfro_5 : Array Oper := match Tryz.f3.body with
  | some (.seq _ (.seq _ (.seq _ (.seq _ (.seq (.region _ o _) _))))) => o
  | _ => #[]
noncomputable def lfro_5 : List Oper := match Tryz.f3.body with
  | some (.seq _ (.seq _ (.seq _ (.seq _ (.seq (.region _ o _) _))))) => o.toList
  | _ => []
theorem efro_5 : rfro_5.toList = lfro_5 := rfl
noncomputable def rfro_6 : Array Oper := match Tryz.f3.body with
  | some (.seq _ (.seq _ (.seq _ (.seq _ (.seq _ (.seq (.region _ o _) _)))))) => o
  | _ => #[]
noncomputable def lfro_6 : List Oper := match Tryz.f3.body with
  | some (.seq _ (.seq _ (.seq _ (.seq _ (.seq _ (.seq (.region _ o _) _)))))) => o.toList
  | _ => []
theorem efro_6 : rfro_6.toList = lfro_6 := rfl
noncomputable def rfro_7 : Array Oper := match Tryz.f3.body with
  | some (.seq _ (.seq _ (.seq _ (.seq _ (.seq _ (.seq _ (.seq (.region _ o _) _))))))) => o
  | _ => #[]
noncomputable def lfro_7 : List Oper := match Tryz.f3.body with
  | some (.seq _ (.seq _ (.seq _ (.seq _ (.seq _ (.seq _ (.seq (.region _ o _) _))))))) => o.toList
  | _ => []
theorem efro_7 : rfro_7.toList = lfro_7 := rfl
noncomputable def rfro_8 : Array Oper := match Tryz.f3.body with
  | some (.seq _ (.seq _ (.seq _ (.seq _ (.seq _ (.seq _ (.seq _ (.seq (.region _ o _) _)))))))) => o
  | _ => #[]
noncomputable def lfro_8 : List Oper := match Tryz.f3.body with
  | some (.seq _ (.seq _ (.seq _ (.seq _ (.seq _ (.seq _ (.seq _ (.seq (.region _ o _) _)))))))) => o.toList
  | _ => []
theorem efro_8 : rfro_8.toList = lfro_8 := rfl
theorem gfro_8_5 {T : List Value} {dd : Option Tmp} {op : Op} {ty : TypeId} {pos : String} {af : Array Edge} {want : Bool} : agd rfro_8 T { dst := dd, op := op, type := ty, pos := pos, after := af, guard := some (5, want) } = gdAt T 52 want := agd_at (by kernel_rfl)
theorem gfro_8_10 {T : List Value} {dd : Option Tmp} {op : Op} {ty : TypeId} {pos : String} {af : Array Edge} {want : Bool} : agd rfro_8 T { dst := dd, op := op, type := ty, pos := pos, after := af, guard := some (10, want) } = gdAt T 57 want := agd_at (by kernel_rfl)
theorem gfro_8_15 {T : List Value} {dd : Option Tmp} {op : Op} {ty : TypeId} {pos : String} {af : Array Edge} {want : Bool} : agd rfro_8 T { dst := dd, op := op, type := ty, pos := pos, after := af, guard := some (15, want) } = gdAt T 62 want := agd_at (by kernel_rfl)
theorem gfro_8_20 {T : List Value} {dd : Option Tmp} {op : Op} {ty : TypeId} {pos : String} {af : Array Edge} {want : Bool} : agd rfro_8 T { dst := dd, op := op, type := ty, pos := pos, after := af, guard := some (20, want) } = gdAt T 67 want := agd_at (by kernel_rfl)
theorem bodyfro : Tryz.f3.body = some (.seq (.region 0 rfro_0 false) (.seq (.seq (.region 1 rfro_1 false) (.cond (.tmp 16) (.seq (.region 2 rfro_2 false) .ret) .skip)) (.seq (.region 3 rfro_3 true) (.seq (.region 4 rfro_4 true) (.seq (.region 5 rfro_5 false) (.seq (.region 6 rfro_6 false) (.seq (.region 7 rfro_7 false) (.seq (.region 8 rfro_8 false) .ret)))))))) := rfl
-- ntmps 75
theorem val_digits (X : Nat) : ∀ n : Nat, val ((List.range n).map fun j => X / 256 ^ j % 256) = X % 256 ^ n := by
  intro n
  induction n with
  | zero => rw [Nat.pow_zero, Nat.mod_one]; rfl
  | succ n ih =>
    rw [List.range_succ, List.map_append, val_append, ih, List.length_map, List.length_range, Nat.mod_pow_succ]
    rfl
theorem num32_byteX {X : Nat} (h : X < P25519) : num32 (byteX X) = X := by
  unfold num32
  rw [show byteX X = fun j => X / 256 ^ j % 256 from funext (byteX_dig X), val_digits, Nat.mod_eq_of_lt (Nat.lt_trans h (by decide +kernel))]
theorem qfro_3 : E.sr 3 rfro_3 = true := by kernel_rfl
theorem zfro_3 : E.mkr 3 rfro_3 = false := by kernel_rfl
theorem qfro_103 : srTab rfro_3 = [(27, some (27, .tmp 18)), (27, some (27, .tmp 20))] := by kernel_rfl
theorem sr4o : E.sr 4 rfro_4 = true := by kernel_rfl
theorem mk4o : E.mkr 4 rfro_4 = true := by kernel_rfl
theorem dep4o : depB E.P E.wr rfro_4 = true := by kernel_rfl
theorem callRat5 : callableB E.P 9 = true := by kernel_rfl
theorem callOf5o : callableB E.P 6 = true := by kernel_rfl
section
variable {self : Self} {nf : Nat} {m : Mem} {F : Nat → Value} {X Y : Nat} {wa wb : Nat → Nat}
theorem fro_0 (h0 : F 0 = arrK .u8 32 wa) (h1 : F 1 = arrK .u8 32 wb) : ∃ F', acodeN E self nf (.region 0 rfro_0 false) (lst F 75) m = some (.normal, lst F' 75, m ++ [.row false 23 (rowK .u8 32 wa)] ++ [.row false 23 (rowK .u8 32 wb)]) ∧ F' 2 = .pointer (some ⟨m.length, 0, none⟩) ∧ F' 3 = .pointer (some ⟨m.length + 1, 0, none⟩) := by
  have b1 := a46.box (w := wa) (m := m)
  have b2 := a46.box (w := wb) (m := m ++ [.row false 23 (rowK .u8 32 wa)])
  rw [show (m ++ [Blk.row false 23 (rowK .u8 32 wa)]).length = m.length + 1 by simp] at b2
  generalize arrK .u8 32 wa = va at *
  generalize arrK .u8 32 wb = vb at *
  simp only [↓zfro_3, qfro_103, qfro_3, efro_0, efro_1, efro_2, efro_3, efro_4, efro_5, efro_6, efro_7, efro_8, lfro_0, lfro_1, lfro_2, lfro_3, lfro_4, lfro_5, lfro_6, lfro_7, lfro_8, gfro_8_10, gfro_8_15, gfro_8_20, gfro_8_5, agd_none, gdAt, gdV_bool, gdV_undef, Tryz.f3, List.append_eq, List.cons_append, List.nil_append, apure_call1, apure_call2, apure_call3, bft, btf, acodeN, List.getElem?_toArray, List.getElem?_cons_zero, List.getElem?_cons_succ, aopsN, adrawT, cls, astep, aop, afloat, ev, nth_lst, get_lst, aput, setAt_lst, upd_at, init_zero, init_succ, init_nil, Nat.reduceLT, Nat.reduceEqDiff, reduceIte, len_N, abuiltin_app, Option.map_some, Option.map_none, orElse_some, apure_add, apure_eqlV, eqlVal_str, eqlVal_bool, eqlVal_ptr, eqlVal_slice, eqlVal_wide, eqlVal_int, allT, ↓aop_eqlV, apure_neq, List.map_cons, List.map_nil, List.all_cons, List.all_nil, lit2, lit1, lit0, List.isEmpty_nil, bls, Bool.false_eq_true, if_true, if_false, List.length_map, beq_self_eq_true, uns, h0, h1, b1, b2]
  exact ⟨_, rfl, by simp only [upd_at, Nat.reduceEqDiff, reduceIte], by simp only [upd_at, Nat.reduceEqDiff, reduceIte]⟩
theorem fro_1 (aw : ainv E self 4 [] m = some (.bool true, m)) : ∃ F', acodeN E self nf (.seq (.region 1 rfro_1 false) (.cond (.tmp 16) (.seq (.region 2 rfro_2 false) .ret) .skip)) (lst F 75) m = some (.normal, lst F' 75, m) ∧ F' 2 = F 2 ∧ F' 3 = F 3 := by
  simp only [↓zfro_3, qfro_103, qfro_3, efro_0, efro_1, efro_2, efro_3, efro_4, efro_5, efro_6, efro_7, efro_8, lfro_0, lfro_1, lfro_2, lfro_3, lfro_4, lfro_5, lfro_6, lfro_7, lfro_8, gfro_8_10, gfro_8_15, gfro_8_20, gfro_8_5, agd_none, gdAt, gdV_bool, gdV_undef, Tryz.f3, List.append_eq, List.cons_append, List.nil_append, apure_call1, apure_call2, apure_call3, bft, btf, acodeN, List.getElem?_toArray, List.getElem?_cons_zero, List.getElem?_cons_succ, aopsN, adrawT, cls, astep, aop, afloat, ev, nth_lst, get_lst, aput, setAt_lst, upd_at, init_zero, init_succ, init_nil, Nat.reduceLT, Nat.reduceEqDiff, reduceIte, len_N, abuiltin_app, Option.map_some, Option.map_none, orElse_some, apure_add, apure_eqlV, eqlVal_str, eqlVal_bool, eqlVal_ptr, eqlVal_slice, eqlVal_wide, eqlVal_int, allT, ↓aop_eqlV, apure_neq, List.map_cons, List.map_nil, List.all_cons, List.all_nil, lit2, lit1, lit0, List.isEmpty_nil, bls, Bool.false_eq_true, if_true, if_false, List.length_map, beq_self_eq_true, uns, callAw5, aw, apure_un, notB']
  exact ⟨_, rfl, by simp only [upd_at, Nat.reduceEqDiff, reduceIte], by simp only [upd_at, Nat.reduceEqDiff, reduceIte]⟩
theorem fro_3 {pa pb : Nat} (h3 : F 2 = .pointer (some ⟨pa, 0, none⟩)) (h4 : F 3 = .pointer (some ⟨pb, 0, none⟩)) (ga : m[pa]? = some (.row false 23 (rowK .u8 32 wa))) (gb : m[pb]? = some (.row false 23 (rowK .u8 32 wb))) (hG : E.G ≤ m.length)
    (c1 : Ans self 5 [arrK .u8 32 wa] (el X)) (c2 : Ans self 5 [arrK .u8 32 wb] (el Y)) :
    ∃ F', acodeN E self nf (.region 3 rfro_3 true) (lst F 75) m = some (.normal, lst F' 75, m ++ [rowEl X, rowEl Y]) ∧ F' 5 = .pointer (some ⟨m.length, 0, none⟩) ∧ F' 6 = .pointer (some ⟨m.length + 1, 0, none⟩) := by
  have la : aload E.P 23 (.pointer (some ⟨pa, 0, none⟩)) (m.map sealed) = some (arrK .u8 32 wa) := a46.load (ro := true) (be := 23) (by rw [List.getElem?_map, ga]; rfl)
  have lb : aload E.P 23 (.pointer (some ⟨pb, 0, none⟩)) (m.map sealed) = some (arrK .u8 32 wb) := a46.load (ro := true) (be := 23) (by rw [List.getElem?_map, gb]; rfl)
  have d1 : decide (pa < m.length) = true := decide_eq_true (List.getElem?_eq_some_iff.1 ga).1
  have d2 : decide (pb < m.length) = true := decide_eq_true (List.getElem?_eq_some_iff.1 gb).1
  have dG : decide (E.G ≤ m.length) = true := decide_eq_true hG
  have l1 := arrK_lit .u8 32 wa
  have l2 := arrK_lit .u8 32 wb
  have l3 := el_lit X
  have l4 := el_lit Y
  have w1 := lay48 X
  have w2 := lay48 Y
  unfold Ans at c1 c2
  generalize arrK .u8 32 wa = va at *
  generalize arrK .u8 32 wb = vb at *
  generalize el X = eX at *
  generalize el Y = eY at *
  simp only [↓zfro_3, qfro_103, qfro_3, efro_0, efro_1, efro_2, efro_3, efro_4, efro_5, efro_6, efro_7, efro_8, lfro_0, lfro_1, lfro_2, lfro_3, lfro_4, lfro_5, lfro_6, lfro_7, lfro_8, gfro_8_10, gfro_8_15, gfro_8_20, gfro_8_5, agd_none, gdAt, gdV_bool, gdV_undef, Tryz.f3, List.append_eq, List.cons_append, List.nil_append, apure_call1, apure_call2, apure_call3, bft, btf, acodeN, List.getElem?_toArray, List.getElem?_cons_zero, List.getElem?_cons_succ, aopsN, adrawT, cls, astep, aop, afloat, ev, nth_lst, get_lst, aput, setAt_lst, upd_at, init_zero, init_succ, init_nil, Nat.reduceLT, Nat.reduceEqDiff, reduceIte, abuiltin, alen, Option.map_some, Option.map_none, orElse_some, apure_add, apure_eqlV, eqlVal_str, eqlVal_bool, eqlVal_ptr, eqlVal_slice, eqlVal_wide, eqlVal_int, allT, ↓aop_eqlV, apure_neq, List.map_cons, List.map_nil, List.all_cons, List.all_nil, lit2, lit1, lit0, List.isEmpty_nil, bls, Bool.false_eq_true, if_true, if_false, List.length_map, beq_self_eq_true, uns, capsLit0, asr, asrT, contents, content, belowB, isCall, laterOk, eq_self, decide_true, Bool.and_self, h3, h4, la, lb, d1, d2, dG, ↓l1, ↓l2, ↓l3, ↓l4, callLo, wrLo, addr48, c1, c2, z48, w1, w2, Nat.add_zero]
  exact ⟨_, rfl, by simp only [upd_at, Nat.reduceEqDiff, reduceIte, Nat.zero_add], by simp only [upd_at, Nat.reduceEqDiff, reduceIte, Nat.zero_add]⟩
theorem fro_4 {px py : Nat} (co : COf5 self) (hby : ∀ X, Ans self 7 [el X] (arrK .u8 32 (byteX X))) (h5 : F 5 = .pointer (some ⟨px, 0, none⟩)) (h6 : F 6 = .pointer (some ⟨py, 0, none⟩)) (gx : m[px]? = some (rowEl X)) (gy : m[py]? = some (rowEl Y)) (hX : X < P25519) (hY : Y < P25519) :
    ∃ F' nb, acodeN E self nf (.region 4 rfro_4 true) (lst F 75) m = some (.normal, lst F' 75, m ++ nb) ∧ F' 5 = F 5 ∧ F' 6 = F 6 ∧ NumA (m ++ nb) (F' 7) (dig X) ∧ NumA (m ++ nb) (F' 8) (dig Y) := by
  suffices key : Ends2 (fun T nb => ∃ F', T = lst F' 75 ∧ F' 5 = F 5 ∧ F' 6 = F 6 ∧ NumA (m ++ nb) (F' 7) (dig X) ∧ NumA (m ++ nb) (F' 8) (dig Y)) (amkUT E self rfro_4 m rfro_4.toList 0 (lst F 75) [] []) by
    obtain ⟨_, nb, h1, F', rfl, h3⟩ := key
    have hr := amk_of dep4o h1
    refine ⟨F', nb, ?_, h3⟩
    simp only [acodeN, sr4o, mk4o, hr]
  have hpx := (List.getElem?_eq_some_iff.1 gx).1
  have hpy := (List.getElem?_eq_some_iff.1 gy).1
  have ldx : ∀ Z : Mem, aload E.P 27 (.pointer (some ⟨px, 0, none⟩)) ((m ++ Z).map sealed) = some (el X) := fun Z => load48 (ro := true) (e := 27) (by rw [List.getElem?_map, List.getElem?_append_left hpx, gx]; rfl)
  have ldy : ∀ Z : Mem, aload E.P 27 (.pointer (some ⟨py, 0, none⟩)) ((m ++ Z).map sealed) = some (el Y) := fun Z => load48 (ro := true) (e := 27) (by rw [List.getElem?_map, List.getElem?_append_left hpy, gy]; rfl)
  have lowP : ∀ (i : Nat) (ow : List Nat) (p : Nat), p < m.length → belowP (pW rfro_4 i m.length ow) 4 (.pointer (some ⟨p, 0, none⟩)) = true := by
    intro i ow p hp
    show pW rfro_4 i m.length ow p = true
    unfold pW
    simp [hp]
  have lowA : ∀ (p : Nat → Bool) (w : Nat → Nat), belowP p 4 (arrK .u8 32 w) = true := by
    intro p w
    show (rowK .u8 32 w).all (belowP p 3) = true
    unfold rowK
    rw [List.all_map, List.all_eq_true]
    intro x _
    rfl
  have lowE : ∀ (p : Nat → Bool) (Z : Nat), belowP p 4 (el Z) = true := fun p Z => rfl
  have bx := hby X
  have by' := hby Y
  unfold Ans at bx by'
  have ex := num32_byteX hX
  have ey := num32_byteX hY
  have mx : X % p5 = X := Nat.mod_eq_of_lt (by rw [← p5_eq]; exact hX)
  have my : Y % p5 = Y := Nat.mod_eq_of_lt (by rw [← p5_eq]; exact hY)
  rw [efro_4]
  simp only [lfro_4, Tryz.f3]
  refine k_lit 0 US.nil agd_none (by kernel_rfl) (by kernel_rfl) (by simp only [opsP, Op.operands, Call.operands, List.toList_toArray, Array.toList_append, Option.toArray, List.cons_append, List.nil_append, List.append_nil, List.all_cons, List.all_nil, ev, nth_lst, upd_at, Nat.reduceEqDiff, reduceIte, Nat.reduceLT, if_true, Bool.and_self, Bool.and_true, lowF, h5, lowP _ _ _ hpx]) (v := el X) (M' := (m ++ maskN rfro_4 0 [] []).map Am.sealed) (by simp only [List.append_eq, List.cons_append, List.nil_append, apure_call1, apure_call2, apure_call3, bft, btf, acodeN, List.getElem?_toArray, List.getElem?_cons_zero, List.getElem?_cons_succ, aopsN, adrawT, cls, astep, aop, afloat, ev, nth_lst, get_lst, aput, setAt_lst, upd_at, init_zero, init_succ, init_nil, Nat.reduceLT, Nat.reduceEqDiff, reduceIte, len_N, abuiltin_app, Option.map_some, Option.map_none, orElse_some, apure_add, apure_eqlV, eqlVal_str, eqlVal_bool, eqlVal_ptr, eqlVal_slice, eqlVal_wide, eqlVal_int, allT, ↓aop_eqlV, apure_neq, List.map_cons, List.map_nil, List.all_cons, List.all_nil, lit2, lit1, lit0, List.isEmpty_nil, bls, Bool.false_eq_true, if_true, if_false, List.length_map, beq_self_eq_true, uns, h5, ldx]) (el_lit _) ?_
  simp only [aput, setAt_lst, Nat.reduceLT, if_true, Nat.reduceAdd]
  refine k_lit 0 US.nil agd_none (by kernel_rfl) (by kernel_rfl) (by simp only [opsP, Op.operands, Call.operands, List.toList_toArray, Array.toList_append, Option.toArray, List.cons_append, List.nil_append, List.append_nil, List.all_cons, List.all_nil, ev, nth_lst, upd_at, Nat.reduceEqDiff, reduceIte, Nat.reduceLT, if_true, Bool.and_self, Bool.and_true, lowF, lowE]) (v := arrK .u8 32 (byteX X)) (M' := (m ++ maskN rfro_4 1 [] []).map Am.sealed) (by simp only [List.append_eq, List.cons_append, List.nil_append, apure_call1, apure_call2, apure_call3, bft, btf, acodeN, List.getElem?_toArray, List.getElem?_cons_zero, List.getElem?_cons_succ, aopsN, adrawT, cls, astep, aop, afloat, ev, nth_lst, get_lst, aput, setAt_lst, upd_at, init_zero, init_succ, init_nil, Nat.reduceLT, Nat.reduceEqDiff, reduceIte, len_N, abuiltin_app, Option.map_some, Option.map_none, orElse_some, apure_add, apure_eqlV, eqlVal_str, eqlVal_bool, eqlVal_ptr, eqlVal_slice, eqlVal_wide, eqlVal_int, allT, ↓aop_eqlV, apure_neq, List.map_cons, List.map_nil, List.all_cons, List.all_nil, lit2, lit1, lit0, List.isEmpty_nil, bls, Bool.false_eq_true, if_true, if_false, List.length_map, beq_self_eq_true, uns, callBy, bx]) (arrK_lit _ _ _) ?_
  simp only [aput, setAt_lst, Nat.reduceLT, if_true, Nat.reduceAdd]
  refine k_numN 1 X US.nil agd_none (by kernel_rfl) (by kernel_rfl) (by kernel_rfl) (by simp only [opsP, Op.operands, Call.operands, List.toList_toArray, Array.toList_append, Option.toArray, List.cons_append, List.nil_append, List.append_nil, List.all_cons, List.all_nil, ev, nth_lst, upd_at, Nat.reduceEqDiff, reduceIte, Nat.reduceLT, if_true, Bool.and_self, Bool.and_true, lowF, lowA]) (by
      obtain ⟨v, M', h3, h4⟩ := co ((m ++ maskN rfro_4 2 [] []).map Am.sealed) (byteX X) (byteX_lt X)
      rw [ex, mx] at h4
      refine ⟨v, M', ?_, h4⟩
      simp only [List.append_eq, List.cons_append, List.nil_append, apure_call1, apure_call2, apure_call3, bft, btf, acodeN, List.getElem?_toArray, List.getElem?_cons_zero, List.getElem?_cons_succ, aopsN, adrawT, cls, astep, aop, afloat, ev, nth_lst, get_lst, aput, setAt_lst, upd_at, init_zero, init_succ, init_nil, Nat.reduceLT, Nat.reduceEqDiff, reduceIte, len_N, abuiltin_app, Option.map_some, Option.map_none, orElse_some, apure_add, apure_eqlV, eqlVal_str, eqlVal_bool, eqlVal_ptr, eqlVal_slice, eqlVal_wide, eqlVal_int, allT, ↓aop_eqlV, apure_neq, List.map_cons, List.map_nil, List.all_cons, List.all_nil, lit2, lit1, lit0, List.isEmpty_nil, bls, Bool.false_eq_true, if_true, if_false, List.length_map, beq_self_eq_true, uns, callOf5o]
      exact h3) fun v1 nb1 ow1 n1 us1 k1 => ?_
  simp only [aput, setAt_lst, Nat.reduceLT, if_true, Nat.reduceAdd]
  refine k_lit 0 us1 agd_none (by kernel_rfl) (by kernel_rfl) (by simp only [opsP, Op.operands, Call.operands, List.toList_toArray, Array.toList_append, Option.toArray, List.cons_append, List.nil_append, List.append_nil, List.all_cons, List.all_nil, ev, nth_lst, upd_at, Nat.reduceEqDiff, reduceIte, Nat.reduceLT, if_true, Bool.and_self, Bool.and_true, lowF, h6, lowP _ _ _ hpy]) (v := el Y) (M' := (m ++ maskN rfro_4 3 nb1 ow1).map Am.sealed) (by simp only [List.append_eq, List.cons_append, List.nil_append, apure_call1, apure_call2, apure_call3, bft, btf, acodeN, List.getElem?_toArray, List.getElem?_cons_zero, List.getElem?_cons_succ, aopsN, adrawT, cls, astep, aop, afloat, ev, nth_lst, get_lst, aput, setAt_lst, upd_at, init_zero, init_succ, init_nil, Nat.reduceLT, Nat.reduceEqDiff, reduceIte, len_N, abuiltin_app, Option.map_some, Option.map_none, orElse_some, apure_add, apure_eqlV, eqlVal_str, eqlVal_bool, eqlVal_ptr, eqlVal_slice, eqlVal_wide, eqlVal_int, allT, ↓aop_eqlV, apure_neq, List.map_cons, List.map_nil, List.all_cons, List.all_nil, lit2, lit1, lit0, List.isEmpty_nil, bls, Bool.false_eq_true, if_true, if_false, List.length_map, beq_self_eq_true, uns, h6, ldy]) (el_lit _) ?_
  simp only [aput, setAt_lst, Nat.reduceLT, if_true, Nat.reduceAdd]
  refine k_lit 0 us1 agd_none (by kernel_rfl) (by kernel_rfl) (by simp only [opsP, Op.operands, Call.operands, List.toList_toArray, Array.toList_append, Option.toArray, List.cons_append, List.nil_append, List.append_nil, List.all_cons, List.all_nil, ev, nth_lst, upd_at, Nat.reduceEqDiff, reduceIte, Nat.reduceLT, if_true, Bool.and_self, Bool.and_true, lowF, lowE]) (v := arrK .u8 32 (byteX Y)) (M' := (m ++ maskN rfro_4 4 nb1 ow1).map Am.sealed) (by simp only [List.append_eq, List.cons_append, List.nil_append, apure_call1, apure_call2, apure_call3, bft, btf, acodeN, List.getElem?_toArray, List.getElem?_cons_zero, List.getElem?_cons_succ, aopsN, adrawT, cls, astep, aop, afloat, ev, nth_lst, get_lst, aput, setAt_lst, upd_at, init_zero, init_succ, init_nil, Nat.reduceLT, Nat.reduceEqDiff, reduceIte, len_N, abuiltin_app, Option.map_some, Option.map_none, orElse_some, apure_add, apure_eqlV, eqlVal_str, eqlVal_bool, eqlVal_ptr, eqlVal_slice, eqlVal_wide, eqlVal_int, allT, ↓aop_eqlV, apure_neq, List.map_cons, List.map_nil, List.all_cons, List.all_nil, lit2, lit1, lit0, List.isEmpty_nil, bls, Bool.false_eq_true, if_true, if_false, List.length_map, beq_self_eq_true, uns, callBy, by']) (arrK_lit _ _ _) ?_
  simp only [aput, setAt_lst, Nat.reduceLT, if_true, Nat.reduceAdd]
  refine k_numN 1 Y us1 agd_none (by kernel_rfl) (by kernel_rfl) (by kernel_rfl) (by simp only [opsP, Op.operands, Call.operands, List.toList_toArray, Array.toList_append, Option.toArray, List.cons_append, List.nil_append, List.append_nil, List.all_cons, List.all_nil, ev, nth_lst, upd_at, Nat.reduceEqDiff, reduceIte, Nat.reduceLT, if_true, Bool.and_self, Bool.and_true, lowF, lowA]) (by
      obtain ⟨v, M', h3, h4⟩ := co ((m ++ maskN rfro_4 5 nb1 ow1).map Am.sealed) (byteX Y) (byteX_lt Y)
      rw [ey, my] at h4
      refine ⟨v, M', ?_, h4⟩
      simp only [List.append_eq, List.cons_append, List.nil_append, apure_call1, apure_call2, apure_call3, bft, btf, acodeN, List.getElem?_toArray, List.getElem?_cons_zero, List.getElem?_cons_succ, aopsN, adrawT, cls, astep, aop, afloat, ev, nth_lst, get_lst, aput, setAt_lst, upd_at, init_zero, init_succ, init_nil, Nat.reduceLT, Nat.reduceEqDiff, reduceIte, len_N, abuiltin_app, Option.map_some, Option.map_none, orElse_some, apure_add, apure_eqlV, eqlVal_str, eqlVal_bool, eqlVal_ptr, eqlVal_slice, eqlVal_wide, eqlVal_int, allT, ↓aop_eqlV, apure_neq, List.map_cons, List.map_nil, List.all_cons, List.all_nil, lit2, lit1, lit0, List.isEmpty_nil, bls, Bool.false_eq_true, if_true, if_false, List.length_map, beq_self_eq_true, uns, callOf5o]
      exact h3) fun v3 nb3 ow3 n3 us3 k3 => ?_
  simp only [aput, setAt_lst, Nat.reduceLT, if_true, Nat.reduceAdd]
  refine k_float v1 agd_none (by kernel_rfl) (by kernel_rfl) (by simp only [List.append_eq, List.cons_append, List.nil_append, apure_call1, apure_call2, apure_call3, bft, btf, acodeN, List.getElem?_toArray, List.getElem?_cons_zero, List.getElem?_cons_succ, aopsN, adrawT, cls, astep, aop, afloat, ev, nth_lst, get_lst, aput, setAt_lst, upd_at, init_zero, init_succ, init_nil, Nat.reduceLT, Nat.reduceEqDiff, reduceIte, len_N, abuiltin_app, Option.map_some, Option.map_none, orElse_some, apure_add, apure_eqlV, eqlVal_str, eqlVal_bool, eqlVal_ptr, eqlVal_slice, eqlVal_wide, eqlVal_int, allT, ↓aop_eqlV, apure_neq, List.map_cons, List.map_nil, List.all_cons, List.all_nil, lit2, lit1, lit0, List.isEmpty_nil, bls, Bool.false_eq_true, if_true, if_false, List.length_map, beq_self_eq_true, uns, id_eq]) ?_
  simp only [aput, setAt_lst, Nat.reduceLT, if_true, Nat.reduceAdd]
  refine k_float v3 agd_none (by kernel_rfl) (by kernel_rfl) (by simp only [List.append_eq, List.cons_append, List.nil_append, apure_call1, apure_call2, apure_call3, bft, btf, acodeN, List.getElem?_toArray, List.getElem?_cons_zero, List.getElem?_cons_succ, aopsN, adrawT, cls, astep, aop, afloat, ev, nth_lst, get_lst, aput, setAt_lst, upd_at, init_zero, init_succ, init_nil, Nat.reduceLT, Nat.reduceEqDiff, reduceIte, len_N, abuiltin_app, Option.map_some, Option.map_none, orElse_some, apure_add, apure_eqlV, eqlVal_str, eqlVal_bool, eqlVal_ptr, eqlVal_slice, eqlVal_wide, eqlVal_int, allT, ↓aop_eqlV, apure_neq, List.map_cons, List.map_nil, List.all_cons, List.all_nil, lit2, lit1, lit0, List.isEmpty_nil, bls, Bool.false_eq_true, if_true, if_false, List.length_map, beq_self_eq_true, uns, id_eq]) ?_
  simp only [aput, setAt_lst, Nat.reduceLT, if_true, Nat.reduceAdd]
  refine k_end ⟨_, rfl, ?_⟩
  simp only [upd_at, Nat.reduceEqDiff, reduceIte]
  exact ⟨trivial, trivial, ((k3 _ _ _ n1.o).s n1).a, n3.b.s.a⟩
theorem fro_5 {px py r : Nat} {ok : Bool} (h5 : F 5 = .pointer (some ⟨px, 0, none⟩)) (h6 : F 6 = .pointer (some ⟨py, 0, none⟩)) (gx : m[px]? = some (rowEl X)) (gy : m[py]? = some (rowEl Y)) (c1 : ainv E self 8 [el X, el Y] m = some (.tuple ⟨[el r, .bool ok]⟩, m)) :
    ∃ F' m', acodeN E self nf (.region 5 rfro_5 false) (lst F 75) m = some (.normal, lst F' 75, m') ∧ F' 5 = F 5 ∧ F' 6 = F 6 ∧ F' 7 = F 7 ∧ F' 8 = F 8 ∧ F' 9 = .pointer (some ⟨m.length, 0, none⟩) ∧ F' 10 = .bool ok ∧ Kept m m' ∧ m'[m.length]? = some (rowEl r) := by
  have l1 := load48on gx (Kept.refl m)
  have l2 := load48on gy (Kept.refl m)
  have b1 := alloc48 m
  obtain ⟨A, hA⟩ : ∃ A, A = m ++ [Blk.row false 27 (c4 0 0 0 0)] := ⟨_, rfl⟩
  rw [← hA] at b1
  have gz : A[m.length]? = some (.row false 27 (c4 0 0 0 0)) := by rw [hA]; simp
  have s1 := st48z (X := r) gz
  have k1 : Kept m (A.set m.length (rowEl r)) := ⟨by rw [List.length_set, hA]; simp, fun k hk => by rw [List.getElem?_set_ne (by omega), hA, List.getElem?_append_left hk]⟩
  have k2 : (A.set m.length (rowEl r))[m.length]? = some (rowEl r) := by rw [List.getElem?_set_self (lt_of_at gz)]
  generalize A.set m.length (rowEl r) = V at *
  clear gz hA gx gy
  generalize el X = eX at *
  generalize el Y = eY at *
  generalize el r = eR at *
  simp only [↓zfro_3, qfro_103, qfro_3, efro_0, efro_1, efro_2, efro_3, efro_4, efro_5, efro_6, efro_7, efro_8, lfro_0, lfro_1, lfro_2, lfro_3, lfro_4, lfro_5, lfro_6, lfro_7, lfro_8, gfro_8_10, gfro_8_15, gfro_8_20, gfro_8_5, agd_none, gdAt, gdV_bool, gdV_undef, Tryz.f3, List.append_eq, List.cons_append, List.nil_append, apure_call1, apure_call2, apure_call3, bft, btf, acodeN, List.getElem?_toArray, List.getElem?_cons_zero, List.getElem?_cons_succ, aopsN, adrawT, cls, astep, aop, afloat, ev, nth_lst, get_lst, aput, setAt_lst, upd_at, init_zero, init_succ, init_nil, Nat.reduceLT, Nat.reduceEqDiff, reduceIte, len_N, abuiltin_app, Option.map_some, Option.map_none, orElse_some, apure_add, apure_eqlV, eqlVal_str, eqlVal_bool, eqlVal_ptr, eqlVal_slice, eqlVal_wide, eqlVal_int, allT, ↓aop_eqlV, apure_neq, List.map_cons, List.map_nil, List.all_cons, List.all_nil, lit2, lit1, lit0, List.isEmpty_nil, bls, Bool.false_eq_true, if_true, if_false, List.length_map, beq_self_eq_true, uns, h5, h6, l1, l2, callRa, c1, aextract, b1, s1]
  exact ⟨_, _, rfl, by simp only [upd_at, Nat.reduceEqDiff, reduceIte, h5], by simp only [upd_at, Nat.reduceEqDiff, reduceIte, h6], by simp only [upd_at, Nat.reduceEqDiff, reduceIte], by simp only [upd_at, Nat.reduceEqDiff, reduceIte], by simp only [upd_at, Nat.reduceEqDiff, reduceIte], by simp only [upd_at, Nat.reduceEqDiff, reduceIte], k1, k2⟩
theorem fro_6 {m' : Mem} {u v s : Value} {is : Bool} (h7 : F 7 = u) (h8 : F 8 = v) (c1 : ainv E self 9 [u, v] m = some (.tuple ⟨[s, .bool is]⟩, m')) :
    ∃ F', acodeN E self nf (.region 6 rfro_6 false) (lst F 75) m = some (.normal, lst F' 75, m') ∧ F' 5 = F 5 ∧ F' 6 = F 6 ∧ F' 7 = u ∧ F' 8 = v ∧ F' 9 = F 9 ∧ F' 10 = F 10 ∧ F' 11 = s ∧ F' 12 = .bool is := by
  simp only [↓zfro_3, qfro_103, qfro_3, efro_0, efro_1, efro_2, efro_3, efro_4, efro_5, efro_6, efro_7, efro_8, lfro_0, lfro_1, lfro_2, lfro_3, lfro_4, lfro_5, lfro_6, lfro_7, lfro_8, gfro_8_10, gfro_8_15, gfro_8_20, gfro_8_5, agd_none, gdAt, gdV_bool, gdV_undef, Tryz.f3, List.append_eq, List.cons_append, List.nil_append, apure_call1, apure_call2, apure_call3, bft, btf, acodeN, List.getElem?_toArray, List.getElem?_cons_zero, List.getElem?_cons_succ, aopsN, adrawT, cls, astep, aop, afloat, ev, nth_lst, get_lst, aput, setAt_lst, upd_at, init_zero, init_succ, init_nil, Nat.reduceLT, Nat.reduceEqDiff, reduceIte, len_N, abuiltin_app, Option.map_some, Option.map_none, orElse_some, apure_add, apure_eqlV, eqlVal_str, eqlVal_bool, eqlVal_ptr, eqlVal_slice, eqlVal_wide, eqlVal_int, allT, ↓aop_eqlV, apure_neq, List.map_cons, List.map_nil, List.all_cons, List.all_nil, lit2, lit1, lit0, List.isEmpty_nil, bls, Bool.false_eq_true, if_true, if_false, List.length_map, beq_self_eq_true, uns, h7, h8, callRat5, c1, aextract]
  exact ⟨_, rfl, by simp only [upd_at, Nat.reduceEqDiff, reduceIte], by simp only [upd_at, Nat.reduceEqDiff, reduceIte], by simp only [upd_at, Nat.reduceEqDiff, reduceIte, h7], by simp only [upd_at, Nat.reduceEqDiff, reduceIte, h8], by simp only [upd_at, Nat.reduceEqDiff, reduceIte], by simp only [upd_at, Nat.reduceEqDiff, reduceIte], by simp only [upd_at, Nat.reduceEqDiff, reduceIte], by simp only [upd_at, Nat.reduceEqDiff, reduceIte]⟩
theorem fro_7 {m1 m2 m3 M1 M2 : Mem} {v1 v2 v3 w3 s1 s2 : Value} (e1 : ainv E self 12 [] m = some (v1, m1)) (b1 : abuildSlice E.P 30 1 [(0, .int .i64 5)] m1 = some (s1, M1)) (e2 : ainv E self 11 [v1, s1] M1 = some (v2, m2)) (b2 : abuildSlice E.P 30 1 [(0, .int .i64 8)] m2 = some (s2, M2)) (e3 : ainv E self 10 [v2, s2] M2 = some (.tuple ⟨[v3, w3]⟩, m3)) :
    ∃ F', acodeN E self nf (.region 7 rfro_7 false) (lst F 75) m = some (.normal, lst F' 75, m3) ∧ F' 5 = F 5 ∧ F' 6 = F 6 ∧ F' 7 = F 7 ∧ F' 8 = F 8 ∧ F' 9 = F 9 ∧ F' 10 = F 10 ∧ F' 11 = F 11 ∧ F' 12 = F 12 ∧ F' 13 = v3 := by
  simp only [↓zfro_3, qfro_103, qfro_3, efro_0, efro_1, efro_2, efro_3, efro_4, efro_5, efro_6, efro_7, efro_8, lfro_0, lfro_1, lfro_2, lfro_3, lfro_4, lfro_5, lfro_6, lfro_7, lfro_8, gfro_8_10, gfro_8_15, gfro_8_20, gfro_8_5, agd_none, gdAt, gdV_bool, gdV_undef, Tryz.f3, List.append_eq, List.cons_append, List.nil_append, apure_call1, apure_call2, apure_call3, bft, btf, acodeN, List.getElem?_toArray, List.getElem?_cons_zero, List.getElem?_cons_succ, aopsN, adrawT, cls, astep, aop, afloat, ev, nth_lst, get_lst, aput, setAt_lst, upd_at, init_zero, init_succ, init_nil, Nat.reduceLT, Nat.reduceEqDiff, reduceIte, len_N, abuiltin_app, Option.map_some, Option.map_none, orElse_some, apure_add, apure_eqlV, eqlVal_str, eqlVal_bool, eqlVal_ptr, eqlVal_slice, eqlVal_wide, eqlVal_int, allT, ↓aop_eqlV, apure_neq, List.map_cons, List.map_nil, List.all_cons, List.all_nil, lit2, lit1, lit0, List.isEmpty_nil, bls, Bool.false_eq_true, if_true, if_false, List.length_map, beq_self_eq_true, uns, callP5, e1, b1, callSubD, e2, b2, callDivR, e3, aextract]
  exact ⟨_, rfl, by simp only [upd_at, Nat.reduceEqDiff, reduceIte], by simp only [upd_at, Nat.reduceEqDiff, reduceIte], by simp only [upd_at, Nat.reduceEqDiff, reduceIte], by simp only [upd_at, Nat.reduceEqDiff, reduceIte], by simp only [upd_at, Nat.reduceEqDiff, reduceIte], by simp only [upd_at, Nat.reduceEqDiff, reduceIte], by simp only [upd_at, Nat.reduceEqDiff, reduceIte], by simp only [upd_at, Nat.reduceEqDiff, reduceIte], by simp only [upd_at, Nat.reduceEqDiff, reduceIte]⟩
theorem fro_8 {px py pr : Nat} {m1 m2 m3 : Mem} {u v s e v1 v2 v3 eX eY eR eI eV eW : Value} {ok : Bool} (h5 : F 5 = .pointer (some ⟨px, 0, none⟩)) (h6 : F 6 = .pointer (some ⟨py, 0, none⟩)) (h7 : F 7 = u) (h8 : F 8 = v) (h9 : F 9 = .pointer (some ⟨pr, 0, none⟩)) (h10 : F 10 = .bool ok) (h11 : F 11 = s) (h12 : F 12 = .bool ok) (h13 : F 13 = e)
    (l1 : aload E.P 27 (.pointer (some ⟨px, 0, none⟩)) m = some eX) (c1 : ainv E self 14 [eX] m = some (eV, m)) (c2 : ainv E self 15 [u] m = some (v1, m1)) (c3 : ainv E self 13 [eV, v1] m1 = some (.bool true, m1))
    (l2 : aload E.P 27 (.pointer (some ⟨pr, 0, none⟩)) m1 = some eR) (c4' : ainv E self 13 [eR, s] m1 = some (.bool true, m1))
    (c5 : ainv E self 16 [] m1 = some (eI, m1)) (c6 : ainv E self 17 [] m1 = some (v2, m2)) (c7 : ainv E self 13 [eI, v2] m2 = some (.bool true, m2))
    (l3 : aload E.P 27 (.pointer (some ⟨py, 0, none⟩)) m2 = some eY) (c8 : ainv E self 18 [eY] m2 = some (eW, m2)) (c9 : ainv E self 19 [v, e] m2 = some (v3, m3)) (c10 : ainv E self 13 [eW, v3] m3 = some (.bool true, m3)) :
    ∃ F', acodeN E self nf (.region 8 rfro_8 false) (lst F 75) m = some (.normal, lst F' 75, m3) ∧ F' 4 = .bool true := by
  have q := same_b ok
  simp only [↓zfro_3, qfro_103, qfro_3, efro_0, efro_1, efro_2, efro_3, efro_4, efro_5, efro_6, efro_7, efro_8, lfro_0, lfro_1, lfro_2, lfro_3, lfro_4, lfro_5, lfro_6, lfro_7, lfro_8, gfro_8_10, gfro_8_15, gfro_8_20, gfro_8_5, agd_none, gdAt, gdV_bool, gdV_undef, Tryz.f3, List.append_eq, List.cons_append, List.nil_append, apure_call1, apure_call2, apure_call3, bft, btf, acodeN, List.getElem?_toArray, List.getElem?_cons_zero, List.getElem?_cons_succ, aopsN, adrawT, cls, astep, aop, afloat, ev, nth_lst, get_lst, aput, setAt_lst, upd_at, init_zero, init_succ, init_nil, Nat.reduceLT, Nat.reduceEqDiff, reduceIte, len_N, abuiltin_app, Option.map_some, Option.map_none, orElse_some, apure_add, apure_eqlV, eqlVal_str, eqlVal_bool, eqlVal_ptr, eqlVal_slice, eqlVal_wide, eqlVal_int, allT, ↓aop_eqlV, apure_neq, List.map_cons, List.map_nil, List.all_cons, List.all_nil, lit2, lit1, lit0, List.isEmpty_nil, bls, Bool.false_eq_true, if_true, if_false, List.length_map, beq_self_eq_true, uns, h5, h6, h7, h8, h9, h10, h11, h12, h13, l1, callIv, c1, callInv5, c2, callIs5, c3, l2, c4', q, callFi, c5, callI5, c6, c7, l3, callRt, c8, callPow5, c9, c10]
  exact ⟨_, rfl, by simp only [upd_at, Nat.reduceEqDiff, reduceIte]⟩
end
end Go.Am.Seat
namespace Go.Am.Seat
open Go.Proofs Go.Am Go.Am.Num
noncomputable abbrev RG : Nat → Self := fun n => runK E mem5r KB n
theorem hRG : Runs RG KB := runsK mem5r KB
section
variable {k : Nat} (hk : 1100 ≤ k)
include hk
theorem gMul : CMul (RG k) := by obtain ⟨j, rfl⟩ : ∃ j, k = j + 2 := ⟨k - 2, by omega⟩; exact cmul hRG rfl rfl (by omega)
theorem gAddR : CAdd (RG k) := by obtain ⟨j, rfl⟩ : ∃ j, k = j + 2 := ⟨k - 2, by omega⟩; exact cadd hRG rfl rfl (by omega)
theorem gAddL : CAddL (RG k) := by obtain ⟨j, rfl⟩ : ∃ j, k = j + 2 := ⟨k - 2, by omega⟩; exact caddL hRG rfl rfl (by omega)
theorem gSub : CSub (RG k) := by obtain ⟨j, rfl⟩ : ∃ j, k = j + 2 := ⟨k - 2, by omega⟩; exact csub hRG rfl rfl (by omega)
theorem gCmp : CCmp (RG k) := by obtain ⟨j, rfl⟩ : ∃ j, k = j + 1 := ⟨k - 1, by omega⟩; exact ccmp hRG rfl (by omega)
theorem gOf : COf (RG k) := by obtain ⟨j, rfl⟩ : ∃ j, k = j + 2 := ⟨k - 2, by omega⟩; exact cof hRG rfl rfl (by omega)
theorem gP5 : CP5 (RG k) := by obtain ⟨j, rfl⟩ : ∃ j, k = j + 5 := ⟨k - 5, by omega⟩; exact cp5 (n := j + 4) hRG rfl (cmod (n := j + 3) hRG rfl (cdec (n := j) hRG rfl rfl rfl rfl rfl (by omega)))
omit hk in
theorem gRed (hk : 1101 ≤ k) : CRed (RG k) := by obtain ⟨j, rfl⟩ : ∃ j, k = j + 1 := ⟨k - 1, by omega⟩; exact cred (fun args m r h => hRG.b rfl h) (gMul (by omega)) (gAddL (by omega)) (gCmp (by omega)) (gSub (by omega)) (gP5 (by omega)) (by omega)
omit hk in
omit hk in
theorem gMul5 (hk : 1102 ≤ k) : CMul5 (RG k) := by obtain ⟨j, rfl⟩ : ∃ j, k = j + 1 := ⟨k - 1, by omega⟩; exact cmul5 hRG rfl (gMul (by omega)) (gRed (by omega))
omit hk in
theorem gSub5 (hk : 1102 ≤ k) : CSub5 (RG k) := by obtain ⟨j, rfl⟩ : ∃ j, k = j + 1 := ⟨k - 1, by omega⟩; exact csub5 hRG rfl (gAddR (by omega)) (gSub (by omega)) (gP5 (by omega)) (gRed (by omega))
theorem gNeg5 : CNeg5 (RG k) := by obtain ⟨j, rfl⟩ : ∃ j, k = j + 1 := ⟨k - 1, by omega⟩; exact cneg5 hRG rfl
theorem gByt5 : CByt5 (RG k) := by obtain ⟨j, rfl⟩ : ∃ j, k = j + 1 := ⟨k - 1, by omega⟩; exact cbyt5 hRG rfl (by omega)
omit hk in
theorem gOf5 (hk : 1102 ≤ k) : COf5 (RG k) := by obtain ⟨j, rfl⟩ : ∃ j, k = j + 1 := ⟨k - 1, by omega⟩; exact cof5 hRG rfl (by omega) (gOf (by omega)) (gRed (by omega))
end
theorem gBit {k : Nat} (hk : 1001 ≤ k) : CBit (RG k) := by obtain ⟨j, rfl⟩ : ∃ j, k = j + 1 := ⟨k - 1, by omega⟩; exact cbit hRG rfl (by omega)
theorem gLen {k : Nat} (hk : 1002 ≤ k) : CLen (RG k) := by obtain ⟨j, rfl⟩ : ∃ j, k = j + 1 := ⟨k - 1, by omega⟩; exact clen hRG rfl (gBit (by omega)) (by omega)
theorem gDiv {k : Nat} (hk : 1101 ≤ k) : CDiv (RG k) := by obtain ⟨j, rfl⟩ : ∃ j, k = j + 1 := ⟨k - 1, by omega⟩; exact cdiv hRG rfl (gAddR (by omega)) (gCmp (by omega)) (gSub (by omega)) (gBit (by omega)) (by omega)
theorem gPow {k : Nat} (hk : 1103 ≤ k) : CPowF (RG k) := by obtain ⟨j, rfl⟩ : ∃ j, k = j + 1 := ⟨k - 1, by omega⟩; exact (cpow hRG rfl (gMul5 (by omega)) (gBit (by omega)) (gLen (by omega)) (by omega)).f
theorem gAbs {k : Nat} (hk : 1103 ≤ k) : CAbsF (RG k) := by obtain ⟨j, rfl⟩ : ∃ j, k = j + 1 := ⟨k - 1, by omega⟩; exact (cabsN hRG rfl (gNeg5 (by omega)) (gSub5 (by omega))).f
theorem gInv {k : Nat} (hk : 1104 ≤ k) : CInvF (RG k) := by obtain ⟨j, rfl⟩ : ∃ j, k = j + 1 := ⟨k - 1, by omega⟩; exact cinvF hRG rfl (gP5 (by omega)) (gSub (by omega)) (gPow (by omega))
theorem gI {k : Nat} (hk : 1104 ≤ k) : CIF (RG k) := by obtain ⟨j, rfl⟩ : ∃ j, k = j + 1 := ⟨k - 1, by omega⟩; exact ciF hRG rfl (gP5 (by omega)) (gSub (by omega)) (gDiv (by omega)) (gPow (by omega)) (gAbs (by omega))
theorem gRoot {k : Nat} (hk : 1105 ≤ k) : CRootF (RG k) := by obtain ⟨j, rfl⟩ : ∃ j, k = j + 1 := ⟨k - 1, by omega⟩; exact crootF hRG rfl (gP5 (by omega)) (gAddR (by omega)) (gDiv (by omega)) (gPow (by omega)) (gMul5 (by omega)).f (gCmp (by omega)) (gI (by omega)) (gAbs (by omega))
theorem gRat {k : Nat} (hk : 1106 ≤ k) : CRatF (RG k) := by obtain ⟨j, rfl⟩ : ∃ j, k = j + 1 := ⟨k - 1, by omega⟩; exact cratF hRG rfl (gInv (by omega)) (gMul5 (by omega)).f (gI (by omega)) (gRoot (by omega))
def KTr (m : Mem) : Prop := E.G ≤ m.length ∧ GM m
theorem KTr.on {m m' : Mem} (h : KTr m) (hk : Kept m m') : KTr m' := by
  refine ⟨Nat.le_trans h.1 hk.1, ?_⟩
  have h2 := h.2
  unfold GM at h2 ⊢
  rw [← h2]
  congr 1
  apply List.ext_getElem?
  intro k
  rw [List.getElem?_take, List.getElem?_take]
  by_cases h1 : k < E.G
  · rw [if_pos h1, if_pos h1, hk.2 k (by have := h.1; omega)]
  · rw [if_neg h1, if_neg h1]
structure RoAll (slf : Self) : Prop where
  lo : ∀ w, (∀ i, w i < 256) → Ans slf 5 [arrK .u8 32 w] (el (looseF w))
  by' : ∀ X, Ans slf 7 [el X] (arrK .u8 32 (byteX X))
  co : COf5 slf
  ra : ∀ u v : Fe, AnsR slf 8 [ef u, ef v] (.tuple ⟨[ef (fabs (rend u v)), .bool (rok u v)]⟩)
  rr : CRatF slf
  cp : CP5 slf
  cs : CSub slf
  cd : CDiv slf
  iv : ∀ X, X < P25519 → AnsG slf 14 [el X] (el (pw X (P25519 - 2)))
  vi : CInvF slf
  is : CIs5 slf
  fi : ∀ M : Mem, GM M → ainv E slf 16 [] M = some (ef fI, M)
  ci : CIF slf
  rt : ∀ (x : Fe) (M : Mem), ainv E slf 18 [ef x] M = some (ef (froot x), M)
  cw : CPowF slf
  aw : ∀ M, KTr M → ainv E slf 4 [] M = some (.bool true, M)
theorem fpw_at (x : Fe) (e : Nat) : (fpw x e).1 = pw x.1 e := rfl
theorem dinv_at (x : Fe) : pw x.1 (P25519 - 2) = (dinv x).1 := by unfold dinv; exact (fpw_at _ _).symm
theorem froot_at (x : Fe) {e : Nat} (he : (2 ^ 250 - 1) * 2 ^ 2 + 1 = e) : (froot x).1 = (fpw x e).1 := by
  unfold froot
  rw [fpw_pow, fpw_succ, he]
theorem fro_body {self : Self} {nf : Nat} {m : Mem} {a b : Nat → Nat} (rl : RoAll self) (ha : ∀ i, a i < 256) (hb : ∀ i, b i < 256) (hK : KTr m) :
    ∃ m', abody E self nf 3 [arrK .u8 32 a, arrK .u8 32 b] m = some (.bool true, m') := by
  rw [abody_eqF (by kernel_rfl) Tryz.func3 bodyfro (by kernel_rfl) (Nat.le_of_ble_eq_true rfl)]
  rw [show Tryz.f3.ntmps = 75 from rfl]
  obtain ⟨A, r0, a2, a3⟩ := fro_0 (self := self) (nf := nf) (m := m) (F := init [arrK .u8 32 a, arrK .u8 32 b]) (wa := a) (wb := b) rfl rfl
  obtain ⟨D0, hD0⟩ : ∃ D, D = m ++ [Blk.row false 23 (rowK .u8 32 a)] ++ [Blk.row false 23 (rowK .u8 32 b)] := ⟨_, rfl⟩
  rw [← hD0] at r0
  have k0 : Kept m D0 := by rw [hD0]; exact (Kept.app _ _).trans (Kept.app _ _)
  have ga : D0[m.length]? = some (.row false 23 (rowK .u8 32 a)) := by rw [hD0, List.append_assoc, List.getElem?_append_right (Nat.le_refl _)]; simp
  have gb : D0[m.length + 1]? = some (.row false 23 (rowK .u8 32 b)) := by rw [hD0, List.append_assoc, List.getElem?_append_right (by omega)]; simp
  clear hD0
  have K0 := hK.on k0
  obtain ⟨B, r1, b2, b3⟩ := fro_1 (self := self) (nf := nf) (m := D0) (F := A) (rl.aw D0 K0)
  obtain ⟨C, r3, c5, c6⟩ := fro_3 (self := self) (nf := nf) (m := D0) (F := B) (X := looseF a) (Y := looseF b) (b2.trans a2) (b3.trans a3) ga gb K0.1 (rl.lo a ha) (rl.lo b hb)
  obtain ⟨x, hx⟩ : ∃ x : Fe, x.1 = looseF a := ⟨⟨looseF a, looseF_lt a⟩, rfl⟩
  obtain ⟨y, hy⟩ : ∃ y : Fe, y.1 = looseF b := ⟨⟨looseF b, looseF_lt b⟩, rfl⟩
  rw [← hx, ← hy] at r3
  clear hx hy ga gb k0
  obtain ⟨D1, hD1⟩ : ∃ D, D = D0 ++ [rowEl x.1, rowEl y.1] := ⟨_, rfl⟩
  rw [← hD1] at r3
  have k1 : Kept D0 D1 := by rw [hD1]; exact Kept.app _ _
  have gx : D1[D0.length]? = some (rowEl x.1) := by rw [hD1, List.getElem?_append_right (Nat.le_refl _)]; simp
  have gy : D1[D0.length + 1]? = some (rowEl y.1) := by rw [hD1, List.getElem?_append_right (by omega), show D0.length + 1 - D0.length = 1 by omega]; rfl
  clear hD1
  have K1 := K0.on k1
  obtain ⟨G, nb, r4, d5, d6, n7, n8⟩ := fro_4 (self := self) (nf := nf) (m := D1) (F := C) (X := x.1) (Y := y.1) rl.co rl.by' c5 c6 gx gy x.2 y.2
  generalize hu : G 7 = u at n7
  generalize hv : G 8 = v at n8
  obtain ⟨D2, hD2⟩ : ∃ D, D = D1 ++ nb := ⟨_, rfl⟩
  rw [← hD2] at r4 n7 n8
  have k2 : Kept D1 D2 := by rw [hD2]; exact Kept.app _ _
  clear hD2
  have K2 := K1.on k2
  have gx2 : D2[D0.length]? = some (rowEl x.1) := by rw [k2.2 _ (List.getElem?_eq_some_iff.1 gx).1]; exact gx
  have gy2 : D2[D0.length + 1]? = some (rowEl y.1) := by rw [k2.2 _ (List.getElem?_eq_some_iff.1 gy).1]; exact gy
  obtain ⟨H, D3, r5, e5, e6, e7, e8, e9, e10, k3, gr⟩ := fro_5 (self := self) (nf := nf) (m := D2) (F := G) (X := x.1) (Y := y.1) (r := (fabs (rend x y)).1) (ok := rok x y) (d5.trans c5) (d6.trans c6) gx2 gy2 (rl.ra x y D2 K2.2)
  have K3 := K2.on k3
  obtain ⟨s, D4, q6, n6⟩ := rl.rr D3 u v x y (n7.on k3) (n8.on k3)
  rw [ratio_eq] at q6 n6
  obtain ⟨I, r6, f5, f6, f7, f8, f9, f10, f11, f12⟩ := fro_6 (self := self) (nf := nf) (m := D3) (F := H) (e7.trans hu) (e8.trans hv) q6
  have k4 := n6.keeps
  obtain ⟨v1, m1, q1, n1⟩ := rl.cp D4
  have b1 := build27 5 m1
  obtain ⟨v2, m2, q2, n2⟩ := rl.cs (m1 ++ [Blk.row false 3 [.int .i64 5]]) v1 (.slice (some ⟨m1.length, 0, none⟩) 1 1) _ 5 (n1.is.on (Kept.app _ _)) (lit_row (c := 5) (by omega) (by omega)) (by decide +kernel) (dl (j := 33) (by decide +kernel) (by omega))
  have b2' := build27 8 m2
  obtain ⟨v3, w3, D5, q3, n3, _, k5'⟩ := rl.cd (m2 ++ [Blk.row false 3 [.int .i64 8]]) v2 (.slice (some ⟨m2.length, 0, none⟩) 1 1) _ 8 (n2.is.on (Kept.app _ _)) (lit_row (c := 8) (by omega) (by omega)) (by omega) (ex_lt (by decide +kernel)) (ex_lt (by decide +kernel))
  have k5 : Kept D4 D5 := n1.keeps.trans ((Kept.app m1 [Blk.row false 3 [.int .i64 5]]).trans (n2.keeps.trans ((Kept.app m2 [Blk.row false 3 [.int .i64 8]]).trans k5')))
  obtain ⟨e, he⟩ : ∃ e, e = (57896044618658097711785492504343953926634992332820282019728792003956564819949 - 5) / 8 := ⟨_, rfl⟩
  rw [← he] at n3
  have he9 : e < 256 ^ 100 := by rw [he]; exact ex_lt (by decide +kernel)
  have hfr : (2 ^ 250 - 1) * 2 ^ 2 + 1 = e := by rw [he]
  clear he
  have n3a := n3.s.a
  obtain ⟨J, r7, g5, g6, g7, g8, g9, g10, g11, g12, g13⟩ := fro_7 (self := self) (nf := nf) (m := D4) (F := I) q1 b1 q2 b2' q3
  clear q1 b1 q2 b2' q3 n1 n2 k5' n3
  have k25 := k3.trans (k4.trans k5)
  have K5 := K2.on k25
  have nu := n7.on k25
  have nv := n8.on k25
  have ns := n6.is.on k5
  have gx5 : D5[D0.length]? = some (rowEl x.1) := by rw [k25.2 _ (List.getElem?_eq_some_iff.1 gx2).1]; exact gx2
  have gy5 : D5[D0.length + 1]? = some (rowEl y.1) := by rw [k25.2 _ (List.getElem?_eq_some_iff.1 gy2).1]; exact gy2
  have gr5 : D5[D2.length]? = some (rowEl (fabs (rend x y)).1) := by rw [(k4.trans k5).2 _ (List.getElem?_eq_some_iff.1 gr).1]; exact gr
  have l1 := load48on gx5 (Kept.refl D5)
  have i1 := rl.iv x.1 x.2 D5 K5.1
  obtain ⟨t1, m1, i2, o1⟩ := rl.vi D5 u x nu
  have i3 := rl.is.yes o1.is (dinv x).p5 (dinv_at x)
  have l2 := load48on gr5 o1.keeps
  have i4 := rl.is.yes (ns.on o1.keeps) (fabs (rend x y)).p5 rfl
  have i5 := rl.fi m1 (K5.on o1.keeps).2
  obtain ⟨t2, m2, i6, o2⟩ := rl.ci m1
  have i7 := rl.is.yes o2.is fI.p5 rfl
  have k12 := o1.keeps.trans o2.keeps
  have l3 := load48on gy5 k12
  have i8 := rl.rt y m2
  obtain ⟨t3, m3, i9, o3⟩ := rl.cw m2 v v3 y e (nv.on k12) (n3a.on k12) he9
  have i10 := rl.is.yes o3.is (fpw y e).p5 (froot_at y hfr)
  obtain ⟨L, r8, z4⟩ := fro_8 (self := self) (nf := nf) (m := D5) (F := J) (g5.trans (f5.trans (e5.trans (d5.trans c5)))) (g6.trans (f6.trans (e6.trans (d6.trans c6)))) (g7.trans f7) (g8.trans f8) (g9.trans (f9.trans e9)) (g10.trans (f10.trans e10)) (g11.trans f11) (g12.trans f12) g13 l1 i1 i2 i3 l2 i4 i5 i6 i7 l3 i8 i9 i10
  refine ⟨m3, ?_⟩
  clear l1 i1 i2 i3 l2 i4 i5 i6 i7 l3 i8 i9 i10
  generalize Code.region 0 rfro_0 false = C0 at *
  generalize Code.seq (Code.region 1 rfro_1 false) (Code.cond (Operand.tmp 16) (Code.seq (Code.region 2 rfro_2 false) Code.ret) Code.skip) = C1 at *
  generalize Code.region 3 rfro_3 true = C3 at *
  generalize Code.region 4 rfro_4 true = C4 at *
  generalize Code.region 5 rfro_5 false = C5 at *
  generalize Code.region 6 rfro_6 false = C6 at *
  generalize Code.region 7 rfro_7 false = C7 at *
  generalize Code.region 8 rfro_8 false = C8 at *
  simp only [acodeN, r0, r1, r3, r4, r5, r6, r7, r8, if_true, finish, ares, aresL, ares1, Tryz.f3, ev, nth_lst, Nat.reduceLT, z4, Option.map_some]
theorem awake5r_at (M : Mem) (hM : KTr M) : ainv E (runK E mem5r KB 2000) 4 [] M = some (.bool true, M) := by
  have h : runK E mem5r KB 2000 4 [] mem5r = some (.bool true, mem5r) := by kernel_rfl
  exact ainv_lit rfl (by kernel_rfl) (by rw [show (M.take E.G).map onlyTab = mem5r from hM.2]; exact h) rfl
theorem roAll : RoAll (runK E mem5r KB 2000) where
  lo := fun w hw => L_lo (MM := mem5r) (n := 1997) noF_KB (by omega) w hw
  by' := fun X => L_by (MM := mem5r) (n := 1999) noF_KB (by omega) X
  co := gOf5 (k := 2000) (by omega)
  ra := L_ra (MM := mem5r) (n := 1989) noF_KB (by omega)
  rr := gRat (k := 2000) (by omega)
  cp := gP5 (k := 2000) (by omega)
  cs := gSub (k := 2000) (by omega)
  cd := gDiv (k := 2000) (by omega)
  iv := fun X hX => L_iv (MM := mem5r) (n := 1993) noF_KB (by omega) X hX
  vi := gInv (k := 2000) (by omega)
  is := cis5 (n := 1999) hRG rfl (fun X => L_by (MM := mem5r) (n := 1998) noF_KB (by omega) X) (gByt5 (k := 1999) (by omega))
  fi := (feOk (MM := mem5r) (n := 1990) noF_KB (by omega)).fi
  ci := gI (k := 2000) (by omega)
  rt := (feOk (MM := mem5r) (n := 1990) noF_KB (by omega)).rt
  cw := gPow (k := 2000) (by omega)
  aw := awake5r_at
theorem KTr0 : KTr mem5r := ⟨Nat.le_of_ble_eq_true (by kernel_rfl), rfl⟩
theorem lawFRo (a b : Nat → Nat) (ha : ∀ i, a i < 256) (hb : ∀ i, b i < 256) : ∃ m', runK E mem5r KB 2001 3 [arrK .u8 32 a, arrK .u8 32 b] mem5r = some (.bool true, m') := by
  rw [runK_other (rfl : hasF KB 3 = false)]
  exact fro_body roAll ha hb KTr0
theorem lawFRoW (a : List Int) (la : a.length = 32) (wa : ∀ n, n ∈ a → (Lit.int .u8 n).wf = true) (b : List Int) (lb : b.length = 32) (wb : ∀ n, n ∈ b → (Lit.int .u8 n).wf = true) :
    ∃ m', runK E mem5r KB 2001 3 [.agg ⟨a.map (.int .u8)⟩, .agg ⟨b.map (.int .u8)⟩] mem5r = some (.bool true, m') := by
  rw [bytes_arr la wa, bytes_arr lb wb]
  exact lawFRo _ _ (fn8_lt wa) (fn8_lt wb)
end Go.Am.Seat
namespace Go.Am
noncomputable section
def ren0 (P : Program) (m : Mem) : Ren := fun k => match m[k]? with
  | some (.tab e cs) => some ⟨k, cs.length, ((P.info? e).map (·.size)).getD 0⟩
  | some _ => some ⟨k, 0, 0⟩
  | none => none
def BlkAt (P : Program) (W : World) (k : Nat) : Blk → Prop
  | .dead => True
  | .tab e cs => W.heap[k]? = some (.cells ⟨cs⟩ e (0, 0)) ∧ (P.info? e).isSome = true ∧ cs.all lit0 = true
  | .row .. => False
theorem mr_tabs {P : Program} {m : Mem} {W : World} (hG : P.globals.size ≤ m.length) (hsize : m.length ≤ W.heap.size) (hb : ∀ k b, m[k]? = some b → BlkAt P W k b) : MR P (ren0 P m) m W := by
  have hr : ∀ k x, ren0 P m k = some x → k < m.length ∧ x.r = k := by
    intro k x h
    unfold ren0 at h
    cases hm : m[k]? with
    | none => rw [hm] at h; cases h
    | some b =>
      have hk : k < m.length := (List.getElem?_eq_some_iff.1 hm).1
      rw [hm] at h
      cases b <;> (cases h; exact ⟨hk, rfl⟩)
  have hs : ∀ k, k < m.length → ∃ x, ren0 P m k = some x ∧ x.r = k := by
    intro k hk
    have hm : m[k]? = some m[k] := by simp [hk]
    cases hq : m[k] with
    | dead => exact ⟨_, by unfold ren0; rw [hm, hq], rfl⟩
    | row ro e cs => exact ⟨_, by unfold ren0; rw [hm, hq], rfl⟩
    | tab e cs => exact ⟨_, by unfold ren0; rw [hm, hq], rfl⟩
  have hl : ∀ k ro e cs, look m k = some (ro, e, cs) → m[k]? = some (.tab e cs) := by
    intro k ro e cs h
    unfold look at h
    split at h
    · rename_i b hm
      have := hb k b hm
      cases b with
      | dead => simp [Blk.cells?] at h
      | row => exact absurd this id
      | tab e' cs' =>
        simp [Blk.cells?] at h
        obtain ⟨_, rfl, rfl⟩ := h
        exact hm
    · cases h
  refine ⟨fun k hk => ?_, fun k x h => ?_, fun g hg => hs g (by omega), fun k ro e cs h => ?_, fun k e cs k' ro' e' cs' x x' h => ?_, fun k e cs h => ?_⟩
  · unfold ren0
    rw [List.getElem?_eq_none hk]
  · obtain ⟨h1, h2⟩ := hr k x h
    omega
  · have hm := hl k ro e cs h
    obtain ⟨h1, h2, h3⟩ := hb k _ hm
    refine ⟨⟨k, cs.length, ((P.info? e).map (·.size)).getD 0⟩, ⟨cs⟩, (0, 0), by unfold ren0; rw [hm], h1, rfl, Nat.le_refl _, fun i u hu => ⟨u, by simpa using hu, .lit ?_⟩, fun _ => loose_zero _, ?_⟩
    · exact lit2_of_lit1 (lit1_of_lit0 (List.all_eq_true.1 h3 u (List.mem_of_getElem? hu)))
    · cases hi : P.info? e with
      | none => rw [hi] at h2; cases h2
      | some i => rfl
  · exact absurd (hb k _ h) id
  · obtain ⟨_, _, h3⟩ := hb k _ h
    intro v hv
    exact List.all_eq_true.1 h3 v hv
theorem shaped_at {P : Program} {W : World} (h : W.ShapedOpen P) {g : Nat} {t : TypeId} (hg : g < P.globals.size) (h0 : (((begin P (fun _ _ => 0) default).world.heap[g]?).bind Obj.row?).map (·.2) = some t) :
    ∃ cs, W.heap[g]? = some (.cells cs t (0, 0)) := by
  obtain ⟨⟨z, t'⟩, h1, h2⟩ := Option.map_eq_some_iff.1 h0
  simp only at h2
  subst h2
  obtain ⟨cs, hc, _⟩ := h.1 g z t' hg h1
  exact ⟨cs, hc⟩
theorem tab_at {P : Program} {W : World} {name : String} {k : IntKind} {zs : List Int} {g : Nat} {t : TypeId} {cs : Array Value} (hg : P.globalNamed name = some g) (hc : W.heap[g]? = some (.cells cs t (0, 0))) (h : Lib.TabIs P W name k zs) :
    W.heap[g]? = some (.cells ⟨zs.map (.int k)⟩ t (0, 0)) := by
  unfold Lib.TabIs World.var? at h
  rw [hg] at h
  simp only [Option.bind_some, hc] at h
  cases h
  exact hc
theorem laid_tail {P : Program} {x : String × DataW Unit} {r : List (String × DataW Unit)} {w : World} (h : laidMet P (x :: r) w) : laidMet P r w := by
  obtain ⟨ps, hv, hnd, hrows⟩ := h
  obtain ⟨n, d⟩ := x
  obtain ⟨g, t, cs, fuel, p, q, _, _, _, _, hq, rfl⟩ := hv
  exact ⟨q, hq, List.Nodup.sublist (List.sublist_append_right _ _) hnd, fun b off hm => hrows b off (List.mem_append_right _ hm)⟩
theorem below_of_ends {P : Program} {ρ : Ren} {m m1 : Mem} {w w1 : World} {v : Value} {e : Ending} (hm : ∀ (k : Nat) (e : TypeId) (cs : List Value), m[k]? ≠ some (Blk.row false e cs)) (hv : lit2 v = true) (h : Ends P ρ m w v m1 e w1) : e = .returned v ∧ Go.RowKit.Below w.heap.size w w1 := by
  obtain ⟨v', ρ1, rfl, hvr, _, hx⟩ := h
  refine ⟨?_, ⟨hx.os, hx.tape, hx.output, hx.size, fun r hr => hx.kept r hr fun k e cs _ hk _ => absurd hk (hm k e cs)⟩⟩
  rw [hvr.eq_of_lit2 hv]
end
end Go.Am
namespace Go.Am
theorem mapM_spec {α β : Type} (f : α → Option β) : ∀ (l : List α) (xs : List β), l.mapM f = some xs → xs.length = l.length ∧ ∀ (i : Nat) (a : α), l[i]? = some a → ∃ x, xs[i]? = some x ∧ f a = some x
  | [], xs, h => by
    simp only [List.mapM_nil, Option.pure_def, Option.some.injEq] at h
    subst h
    exact ⟨rfl, fun i a ha => by simp at ha⟩
  | b :: l, xs, h => by
    simp only [List.mapM_cons, Option.pure_def, Option.bind_eq_bind] at h
    obtain ⟨x, hx, h⟩ := Option.bind_eq_some_iff.1 h
    obtain ⟨ys, hy, h⟩ := Option.bind_eq_some_iff.1 h
    cases h
    obtain ⟨h1, h2⟩ := mapM_spec f l ys hy
    refine ⟨by simp [h1], fun i a ha => ?_⟩
    cases i with
    | zero => simp at ha; subst ha; exact ⟨x, rfl, hx⟩
    | succ i => simp at ha; simpa using h2 i a ha
theorem mapM_mk {α β : Type} {f : α → Option β} {g : α → β} : ∀ (l : List α), (∀ a, a ∈ l → f a = some (g a)) → l.mapM f = some (l.map g)
  | [], _ => rfl
  | b :: l, h => by
    simp only [List.mapM_cons, Option.pure_def, Option.bind_eq_bind, List.map_cons]
    rw [h b (by simp), mapM_mk l fun a ha => h a (by simp [ha])]
    rfl
theorem take_one {α : Type} {l : List α} {i : Nat} (h : i < l.length) : (l.drop i).take 1 = [l[i]] := by
  rw [List.drop_eq_getElem_cons h]
  rfl
variable {H : Type} {enc : TypeId × Value → H} {P : Program} {W : World} {base : Nat} {spare : Nat → Bool} {held : Bool}
theorem open_arr {r : Reach} {b0 : Nat} {t e : TypeId} {n : Nat} {k : IntKind} {v : Value} {d : DataW H} {ps : List MemPlace} (ht : P.underlying t = some (.array n e)) (he : P.underlying e = some (.int k)) (hc : P.cellsOf t = n) (hce : P.cellsOf e = 1)
    (hval : Value.okWide P W r b0 t v) (hd : DataW.Trod enc P W base spare held t v d ps) :
    ∃ l : List Int, l.length = n ∧ v = .agg ⟨l.map (.int k)⟩ ∧ d = .agg (l.map fun x => .lit (.int k x)) ∧ ps = [] ∧ ∀ x, x ∈ l → (Lit.int k x).wf = true := by
  unfold Value.okWide at hval
  simp only [ht] at hval
  obtain ⟨⟨cs⟩, rfl, hsz, _⟩ := hval
  have hlen : cs.length = n := by rw [hc] at hsz; simpa using hsz
  obtain ⟨fuel, hf⟩ := hd
  cases fuel with
  | zero => simp [DataW.trod] at hf
  | succ fuel =>
    unfold DataW.trod at hf
    simp only [ht, Value.cells, hlen, hc, hce, if_true, Nat.mul_one] at hf
    obtain ⟨xs, hx, hd⟩ := Option.map_eq_some_iff.1 hf
    obtain ⟨h1, h2⟩ := mapM_spec _ _ _ hx
    have hxl : xs.length = n := by rw [h1]; simp
    have key : ∀ i, i < n → ∃ x : Int, cs[i]? = some (.int k x) ∧ xs[i]? = some (.lit (.int k x), []) ∧ (Lit.int k x).wf = true := by
      intro i hi
      obtain ⟨x, hx1, hx2⟩ := h2 i i (List.getElem?_range hi)
      rw [take_one (by omega)] at hx2
      obtain ⟨y, g, rfl, w⟩ := DataW.trod_int he hx2
      simp only [List.cons.injEq, and_true] at g
      exact ⟨y, by rw [← g]; simp [hlen, hi], hx1, w⟩
    let l : List Int := cs.map fun v => match v with | .int _ x => x | _ => 0
    have hl : l.length = n := by simp [l, hlen]
    have hget : ∀ i, i < n → ∃ x : Int, l[i]? = some x ∧ cs[i]? = some (.int k x) ∧ xs[i]? = some (.lit (.int k x), []) ∧ (Lit.int k x).wf = true := by
      intro i hi
      obtain ⟨x, a1, a2, a3⟩ := key i hi
      exact ⟨x, by simp [l, a1], a1, a2, a3⟩
    have e1 : cs = l.map (.int k) := by
      apply List.ext_getElem?
      intro i
      by_cases hi : i < n
      · obtain ⟨x, a0, a1, _⟩ := hget i hi
        rw [a1, List.getElem?_map, a0]; rfl
      · rw [List.getElem?_eq_none (by omega), List.getElem?_eq_none (by simp; omega)]
    have e2 : xs = l.map fun x => (.lit (.int k x), []) := by
      apply List.ext_getElem?
      intro i
      by_cases hi : i < n
      · obtain ⟨x, a0, _, a2, _⟩ := hget i hi
        rw [a2, List.getElem?_map, a0]; rfl
      · rw [List.getElem?_eq_none (by omega), List.getElem?_eq_none (by simp; omega)]
    have e3 : (l.map fun x => ((.lit (.int k x), []) : DataW H × List MemPlace)).flatMap (·.2) = [] := by
      rw [List.flatMap_map]
      simp
    rw [e2] at hd
    simp only [Prod.mk.injEq] at hd
    obtain ⟨d1, d2⟩ := hd
    refine ⟨l, hl, by rw [e1], ?_, ?_, ?_⟩
    · rw [← d1, List.map_map]; rfl
    · rw [← d2]; exact e3
    · intro x hx
      obtain ⟨i, hi, rfl⟩ := List.mem_iff_getElem.1 hx
      obtain ⟨y, a0, _, _, a3⟩ := hget i (by omega)
      rw [List.getElem?_eq_getElem hi] at a0
      cases a0
      exact a3
theorem shut_arr {t e : TypeId} {n : Nat} {k : IntKind} {l : List Int} (ht : P.underlying t = some (.array n e)) (he : P.underlying e = some (.int k)) (hc : P.cellsOf t = n) (hce : P.cellsOf e = 1) (hl : l.length = n) (hw : ∀ x, x ∈ l → (Lit.int k x).wf = true) :
    DataW.Trod enc P W base spare held t (.agg ⟨l.map (.int k)⟩) (.agg (l.map fun x => .lit (.int k x))) [] := by
  refine ⟨2, ?_⟩
  unfold DataW.trod
  simp only [ht, Value.cells, List.length_map, hl, hc, hce, if_true, Nat.mul_one]
  have h : (List.range n).mapM (fun i => DataW.trod enc P W base spare held 1 e (List.take 1 (List.drop i (l.map (Value.int k))))) = some ((List.range n).map fun i => ((.lit (.int k (l.getD i 0)), []) : DataW H × List MemPlace)) := by
    refine mapM_mk _ fun i hi => ?_
    have hi' : i < l.length := by rw [hl]; exact List.mem_range.1 hi
    rw [take_one (by simpa using hi')]
    have hg : l.getD i 0 = l[i] := by simp [hi']
    rw [hg]
    simp only [List.getElem_map, DataW.trod, he, hw l[i] (List.getElem_mem hi'), and_self, if_true]
  rw [h]
  have e1 : (List.range n).map (fun i => (DataW.lit (.int k (l.getD i 0)) : DataW H)) = l.map fun x => .lit (.int k x) := by
    apply List.ext_getElem?
    intro i
    by_cases hi : i < n
    · have hi' : i < l.length := by omega
      simp [hi, hi']
    · rw [List.getElem?_eq_none (by simp; omega), List.getElem?_eq_none (by simp; omega)]
  have e2 : ((List.range n).map fun i => ((.lit (.int k (l.getD i 0)), []) : DataW H × List MemPlace)).flatMap (·.2) = [] := by
    rw [List.flatMap_map]
    simp
  simp only [Option.map_some, List.map_map]
  rw [e2]
  congr 3
end Go.Am
