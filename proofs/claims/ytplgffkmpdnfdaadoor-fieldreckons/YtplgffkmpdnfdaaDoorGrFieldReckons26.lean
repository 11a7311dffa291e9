/-
  Texts of my own, put together: E17, G11, G12, G13, T, X2.
-/
import Derived.Test.YtplgffkmpdnfdaaDoorGrFieldReckons25
import Derived.Test.YtplgffkmpdnfdaaDoorGrFieldReckons22
import Derived.Test.YtplgffkmpdnfdaaDoorGrFieldReckons23
import Derived.Test.YtplgffkmpdnfdaaDoorGrFieldReckons8
import Derived.Lib.LaidTab
import Derived.ChangeShapes
import Derived.Test.YtplgffkmpdnfdaaDoorGrFieldReckons0
/-
  FieldBytes, over the whole (own work).
-/
set_option linter.unusedSimpArgs false
set_option linter.unusedVariables false
namespace Go.Am.Seat
open Go.Proofs Go.Am Go.Am.Num
set_option maxRecDepth 100000
set_option maxHeartbeats 4000000

def KB : List Fact := [awakeF5]
theorem KB_hold (F : Fact) (h : F ∈ KB) : F.holds E.P mem5 := by
  simp only [KB, List.mem_cons, List.not_mem_nil, or_false] at h
  subst h
  exact awake05
theorem noF_KB : NoF KB := by
  have h : (fieldFs.all fun f => !hasF KB f) = true := by kernel_rfl
  intro f hf
  have := List.all_eq_true.1 h f hf
  simpa using this
/-- Bytes of an argument. -/
def fn8 (l : List Int) (i : Nat) : Nat := (l.getD i 0).toNat
theorem wf_u8 {n : Int} (h : (Lit.int .u8 n).wf = true) : 0 ≤ n ∧ n < 256 := by
  unfold Lit.wf at h
  simp only [Bool.and_eq_true, decide_eq_true_eq] at h
  have h1 : IntKind.u8.min = 0 := by decide
  have h2 : IntKind.u8.max = 255 := by decide
  rw [h1, h2] at h
  omega
theorem fn8_lt {l : List Int} (h : ∀ n, n ∈ l → (Lit.int .u8 n).wf = true) (i : Nat) : fn8 l i < 256 := by
  unfold fn8
  by_cases hi : i < l.length
  · have := wf_u8 (h l[i] (List.getElem_mem hi))
    simp only [List.getD_eq_getElem?_getD, List.getElem?_eq_getElem hi, Option.getD_some]
    omega
  · rw [List.getD_eq_getElem?_getD, List.getElem?_eq_none (by omega)]
    decide
theorem bytes_arr {l : List Int} (hl : l.length = 32) (h : ∀ n, n ∈ l → (Lit.int .u8 n).wf = true) : Value.agg ⟨l.map (Value.int .u8)⟩ = arrK .u8 32 (fn8 l) := by
  unfold arrK
  congr 2
  apply List.ext_getElem?
  intro j
  by_cases hj : j < 32
  · have hg : l[j]? = some l[j] := by simp [hl, hj]
    rw [rowK_get hj, List.getElem?_map, hg]
    have := wf_u8 (h l[j] (by simp))
    unfold fn8
    rw [List.getD_eq_getElem?_getD, hg]
    show some (Value.int .u8 l[j]) = some (Value.int .u8 ((l[j].toNat : Nat) : Int))
    rw [Int.toNat_of_nonneg this.1]
  · rw [List.getElem?_eq_none (by rw [List.length_map, hl]; omega), List.getElem?_eq_none (by rw [rowK_length]; omega)]

end Go.Am.Seat

/-
  FieldReckons: its other regions (own work).
-/
set_option linter.unusedSimpArgs false
set_option linter.unusedVariables false
namespace Go.Am.Seat
open Go.Proofs Go.Am Go.Am.Num
set_option maxRecDepth 100000

theorem cfold {R : Nat → Self} {K : List Fact} (hR : Runs R K) {n : Nat} (hK : hasF K 54 = false) (hn : 1000 ≤ n) {M : Mem} {q X Y Z S T : Nat} {ro : Bool} (hq : M[q]? = some (.row ro 58 (c12 X Y Z))) (h1 : Ans (R n) 40 [el X, el Y] (el S)) (h2 : Ans (R n) 40 [el S, el Z] (el T)) :
    ainv E (R (n + 1)) 54 [fAdd, .slice (some ⟨q, 0, none⟩) 3 3] M = some (el T, M) := by
  obtain ⟨m', hb⟩ := fold_body (self := R n) (nf := n + 1) (m := M.map Am.sealed) (q := q) (X := X) (Y := Y) (Z := Z) (ro := true) (by rw [List.getElem?_map, hq]; rfl) h1 h2 (by omega)
  exact ainv_look rfl (by kernel_rfl) (hR.b hK hb) rfl
/-- The tables are laid. -/
def KT5 (m : Mem) : Prop := E.G ≤ m.length ∧ (m.take E.G).map onlyTab = mem5
theorem KT5.on {m m' : Mem} (h : KT5 m) (hk : Kept m m') : KT5 m' := by
  refine ⟨Nat.le_trans h.1 hk.1, ?_⟩
  rw [← h.2]
  congr 1
  apply List.ext_getElem?
  intro k
  rw [List.getElem?_take, List.getElem?_take]
  by_cases h1 : k < E.G
  · rw [if_pos h1, if_pos h1, hk.2 k (by have := h.1; omega)]
  · rw [if_neg h1, if_neg h1]
theorem bld12n (X Y Z : Nat) (m : Mem) : abuildSlice E.P 102 3 [(0, el X), (1, el Y), (2, el Z)] m = none := by kernel_rfl
theorem bld12 (X Y Z : Nat) (m : Mem) : abuildSliceG E.P 102 3 [(0, el X), (1, el Y), (2, el Z)] m = some (.slice (some ⟨m.length, 0, none⟩) 3 3, m ++ [.row false 58 (c12 X Y Z)]) := by kernel_rfl
theorem callFold : callableB E.P 54 = true := by kernel_rfl
theorem callZeF : callableB E.P 52 = true := by kernel_rfl
theorem callCmpR : callableB E.P 13 = true := by kernel_rfl
theorem callOf5 : callableB E.P 37 = true := by kernel_rfl
theorem dig_nil {X : Nat} : ((((dig X).length : Nat) : Int) == 0) = decide (X = 0) := by
  by_cases h : X = 0
  · subst h; rw [dig_zero]; rfl
  · rw [decide_eq_false h, beq_eq_false_iff_ne, dig_pos h]
    simp
    omega
theorem cmp_eq {X Y : Nat} : (cmpN X Y == 0) = decide (X = Y) := by
  unfold cmpN
  by_cases h1 : X < Y
  · rw [if_pos h1, decide_eq_false (by omega)]; rfl
  · rw [if_neg h1]
    by_cases h2 : Y < X
    · rw [if_pos h2, decide_eq_false (by omega)]; rfl
    · rw [if_neg h2, decide_eq_true (by omega)]; rfl
theorem same_b (b : Bool) : (b == b) = true := by cases b <;> rfl

section
variable {self : Self} {nf : Nat} {m : Mem} {F : Nat → Value} {px py X Y n : Nat} {u v : Value}
theorem fre_10 (rc : ReCalls self) (hn1 : ∀ X, X < P25519 → Ans self 50 [el X] (.bool (decide (X % 2 = 1)))) (hze : ∀ X, X < P25519 → Ans self 52 [el X] (.bool (decide (X = 0)))) (hsm : ∀ X Y, X < P25519 → Y < P25519 → Ans self 53 [el X, el Y] (.bool (decide (X = Y))))
    (cn : CNeg5 self) (cc : CCmp self) (hfo : ∀ (M : Mem) (q : Nat), M[q]? = some (.row false 58 (c12 X Y X)) → ainv E self 54 [fAdd, .slice (some ⟨q, 0, none⟩) 3 3] M = some (el (((X + Y) % P25519 + X) % P25519), M)) (hf0 : ∀ M, KT5 M → ainv E self 54 [fAdd, .slice none 0 0] M = some (el 0, M))
    (h7 : F 7 = .pointer (some ⟨px, 0, none⟩)) (h8 : F 8 = .pointer (some ⟨py, 0, none⟩)) (h11 : F 11 = u) (h12 : F 12 = v)
    (gx : m[px]? = some (.row false 58 (c4 (wd 0 X) (wd 1 X) (wd 2 X) (wd 3 X)))) (gy : m[py]? = some (.row false 58 (c4 (wd 0 Y) (wd 1 Y) (wd 2 Y) (wd 3 Y)))) (hX : X < P25519) (hY : Y < P25519) (hu : NumS m u X) (hv : NumA m v (dig Y)) (hK : KT5 m) :
    ∃ F' m', acodeN E self nf (.region 10 rfre_10 false) (lst F 140) m = some (.normal, lst F' 140, m') ∧ F' 6 = .bool true := by
  have hX' : X < p5 := by rw [← p5_eq]; exact hX
  have hY' : Y < p5 := by rw [← p5_eq]; exact hY
  have hX9 := Nat.lt_trans hX' p5_lt
  have hY9 := Nat.lt_trans hY' p5_lt
  have x0 := load48on gx (Kept.refl m)
  have y0 := load48on gy (Kept.refl m)
  have c1 := hn1 X hX m
  have c2 := cn m u X hu.a
  have c3 := hze X hX m
  have lu := hu.len
  have c4' := hsm X Y hX hY m
  have c5 := cc m u v X Y hu.a hv (q32_len hX9) (q32_len hY9)
  have b1 := bld12 X Y X m
  have b0 := bld12n X Y X m
  obtain ⟨M1, hM1⟩ : ∃ M1, M1 = m ++ [Blk.row false 58 (c12 X Y X)] := ⟨_, rfl⟩
  rw [← hM1] at b1
  have k1 : Kept m M1 := by rw [hM1]; exact Kept.app _ _
  have c6 := hfo M1 m.length (by rw [hM1]; simp)
  obtain ⟨v2, m2, e2, r2⟩ := rc.ra M1 u v X Y (hu.a.on k1) (hv.on k1) hX9 hY9
  have k2 := k1.trans r2.keeps
  obtain ⟨v3, m3, e3, r3⟩ := rc.ra m2 u v2 X ((X + Y) % p5) (hu.a.on k2) r2.is hX9 (Nat.lt_trans (mod_lt' _) p5_lt)
  have k3 := k2.trans r3.keeps
  have i3 := rc.is.yes r3.is (mod_lt' _) (show ((X + Y) % P25519 + X) % P25519 = (X + (X + Y) % p5) % p5 by rw [p5_eq, Nat.add_comm])
  have c7 := hf0 m3 (hK.on k3)
  have c8 := hze 0 (by decide +kernel) m3
  rw [decide_eq_true rfl] at c8
  have q1 := same_b (decide (X % 2 = 1))
  have q2 := dig_nil (X := X)
  have q3 := same_b (decide (X = 0))
  have q4 := cmp_eq (X := X) (Y := Y)
  have q5 := same_b (decide (X = Y))
  generalize el (((X + Y) % P25519 + X) % P25519) = eF at *
  generalize el X = eX at *
  generalize el Y = eY at *
  generalize el 0 = eZ at *
  generalize decide (X % 2 = 1) = t1 at *
  generalize decide (X = 0) = t2 at *
  generalize decide (X = Y) = t3 at *
  generalize cmpN X Y = cXY at *
  unfold fAdd at c6 c7
  clear r2 r3 gx gy hu hv hM1
  simp only [↓zfre_3, ↓zfre_4, qfre_103, qfre_104, qfre_3, qfre_4, efre_0, efre_1, efre_10, efre_2, efre_3, efre_4, efre_5, efre_6, efre_7, efre_8, efre_9, lfre_0, lfre_1, lfre_2, lfre_3, lfre_4, lfre_5, lfre_6, lfre_7, lfre_8, lfre_9, lfre_10, gfre_10_13, gfre_10_23, gfre_10_36, gfre_10_5, gfre_8_12, gfre_8_22, gfre_8_32, gfre_8_4, gfre_8_42, gfre_8_51, gfre_8_59, agd_none, gdAt, gdV_bool, gdV_undef, Tryd.f7, List.append_eq, List.cons_append, List.nil_append, apure_call1, apure_call2, apure_call3, bft, btf, acodeN, List.getElem?_toArray, List.getElem?_cons_zero, List.getElem?_cons_succ, aopsN, adrawT, cls, astep, aop, afloat, ev, nth_lst, get_lst, aput, setAt_lst, upd_at, init_zero, init_succ, init_nil, Nat.reduceLT, Nat.reduceEqDiff, reduceIte, len_N, abuiltin_app, Option.map_some, Option.map_none, orElse_some, apure_add, apure_eqlV, eqlVal_str, eqlVal_bool, eqlVal_ptr, eqlVal_slice, eqlVal_wide, eqlVal_int, allT, ↓aop_eqlV, apure_neq, List.map_cons, List.map_nil, List.all_cons, List.all_nil, lit2, lit1, lit0, List.isEmpty_nil, Bool.and_self, Bool.and_true, Bool.true_and, Bool.false_and, Bool.and_false, Bool.not_true, Bool.not_false, Bool.or_true, Bool.true_or, Bool.false_or, Bool.or_false, Bool.false_eq_true, if_true, if_false, List.length_map, beq_self_eq_true, und3, und4, und5, und9, h7, h8, h11, h12, x0, y0, callNeg1, c1, callNeg5, c2, q1, callZeF, c3, lu, eql64, q2, q3, callSm, c4', callCmpR, c5, q4, q5, b0, b1, callFold, c6, callAdd5, e2, e3, callIs5, i3, c7, c8]
  exact ⟨_, _, rfl, by simp only [upd_at, Nat.reduceEqDiff, reduceIte]⟩
theorem fre_3 {pa pb : Nat} {wa wb : Nat → Nat} (h3 : F 3 = .pointer (some ⟨pa, 0, none⟩)) (h4 : F 4 = .pointer (some ⟨pb, 0, none⟩)) (ga : m[pa]? = some (.row false 56 (rowK .u8 32 wa))) (gb : m[pb]? = some (.row false 56 (rowK .u8 32 wb))) (hG : E.G ≤ m.length)
    (c1 : Ans self 36 [arrK .u8 32 wa] (el X)) (c2 : Ans self 36 [arrK .u8 32 wb] (el Y)) :
    ∃ F', acodeN E self nf (.region 3 rfre_3 true) (lst F 140) m = some (.normal, lst F' 140, m ++ [rowEl X, rowEl Y]) ∧ F' 2 = F 2 ∧ F' 3 = F 3 ∧ F' 4 = F 4 ∧ F' 7 = .pointer (some ⟨m.length, 0, none⟩) ∧ F' 8 = .pointer (some ⟨m.length + 1, 0, none⟩) := by
  have la : aload E.P 56 (.pointer (some ⟨pa, 0, none⟩)) (m.map sealed) = some (arrK .u8 32 wa) := a46.load (ro := true) (be := 56) (by rw [List.getElem?_map, ga]; rfl)
  have lb : aload E.P 56 (.pointer (some ⟨pb, 0, none⟩)) (m.map sealed) = some (arrK .u8 32 wb) := a46.load (ro := true) (be := 56) (by rw [List.getElem?_map, gb]; rfl)
  have d1 : decide (pa < m.length) = true := decide_eq_true (List.getElem?_eq_some_iff.1 ga).1
  have d2 : decide (pb < m.length) = true := decide_eq_true (List.getElem?_eq_some_iff.1 gb).1
  have dG : decide (E.G ≤ m.length) = true := decide_eq_true hG
  have l1 := arrK_lit .u8 32 wa
  have l2 := arrK_lit .u8 32 wb
  have l3 := el_lit X
  have l4 := el_lit Y
  have w1 := lay48 X
  have w2 := lay48 Y
  unfold Ans at c1 c2
  generalize arrK .u8 32 wa = va at *
  generalize arrK .u8 32 wb = vb at *
  generalize el X = eX at *
  generalize el Y = eY at *
  simp only [↓zfre_3, ↓zfre_4, qfre_103, qfre_104, qfre_3, qfre_4, efre_0, efre_1, efre_10, efre_2, efre_3, efre_4, efre_5, efre_6, efre_7, efre_8, efre_9, lfre_0, lfre_1, lfre_2, lfre_3, lfre_4, lfre_5, lfre_6, lfre_7, lfre_8, lfre_9, lfre_10, gfre_10_13, gfre_10_23, gfre_10_36, gfre_10_5, gfre_8_12, gfre_8_22, gfre_8_32, gfre_8_4, gfre_8_42, gfre_8_51, gfre_8_59, agd_none, gdAt, gdV_bool, gdV_undef, Tryd.f7, List.append_eq, List.cons_append, List.nil_append, apure_call1, apure_call2, apure_call3, bft, btf, acodeN, List.getElem?_toArray, List.getElem?_cons_zero, List.getElem?_cons_succ, aopsN, adrawT, cls, astep, aop, afloat, ev, nth_lst, get_lst, aput, setAt_lst, upd_at, init_zero, init_succ, init_nil, Nat.reduceLT, Nat.reduceEqDiff, reduceIte, abuiltin, alen, Option.map_some, Option.map_none, orElse_some, apure_add, apure_eqlV, eqlVal_str, eqlVal_bool, eqlVal_ptr, eqlVal_slice, eqlVal_wide, eqlVal_int, allT, ↓aop_eqlV, apure_neq, List.map_cons, List.map_nil, List.all_cons, List.all_nil, lit2, lit1, lit0, List.isEmpty_nil, Bool.and_self, Bool.and_true, Bool.true_and, Bool.false_and, Bool.and_false, Bool.not_true, Bool.not_false, Bool.or_true, Bool.true_or, Bool.false_or, Bool.or_false, Bool.false_eq_true, if_true, if_false, List.length_map, beq_self_eq_true, und3, und4, und5, und9, capsLit0, asr, asrT, contents, content, belowB, isCall, laterOk, eq_self, decide_true, Bool.and_self, h3, h4, la, lb, d1, d2, dG, ↓l1, ↓l2, ↓l3, ↓l4, callLo, wrLo, addr48, c1, c2, z48, w1, w2, Nat.add_zero]
  exact ⟨_, rfl, by simp only [upd_at, Nat.reduceEqDiff, reduceIte], by simp only [upd_at, Nat.reduceEqDiff, reduceIte, h3], by simp only [upd_at, Nat.reduceEqDiff, reduceIte, h4], by simp only [upd_at, Nat.reduceEqDiff, reduceIte, Nat.zero_add], by simp only [upd_at, Nat.reduceEqDiff, reduceIte, Nat.zero_add]⟩
end
end Go.Am.Seat

/-
  FieldReckons: the rest of its regions (own work).
-/
set_option linter.unusedSimpArgs false
set_option linter.unusedVariables false
namespace Go.Am.Seat
open Go.Proofs Go.Am Go.Am.Num
set_option maxRecDepth 100000

theorem z46 : zeroB E.P 56 = some (.row false 56 (rowK .u8 32 fun _ => 0)) := by kernel_rfl
theorem lay46 (w : Nat → Nat) : astore E.P 56 (.pointer (some ⟨0, 0, none⟩)) (arrK .u8 32 w) [.row false 56 (rowK .u8 32 fun _ => 0)] = some [.row false 56 (rowK .u8 32 w)] := a46.store (w := w) (be := 56) (cs := rowK .u8 32 fun _ => 0) (m := [.row false 56 (rowK .u8 32 fun _ => 0)]) (p := 0) (by omega) rfl (rowK_length _ _ _)
theorem and8_127 {x : Nat} (hx : x < 256) : abin .and .u8 ((x : Nat) : Int) .u8 127 = some (.int .u8 ((x % 128 : Nat) : Int)) := by
  have h1 : ∀ y : Nat, abin .and .u8 ((y : Nat) : Int) .u8 127 = some (.int .u8 (wrapF .u8 ((((((y : Nat) : Int) % 256).toNat &&& ((127 : Int) % 256).toNat : Nat)) : Int))) := fun y => by kernel_rfl
  have e1 : (((x : Nat) : Int) % 256).toNat = x := by omega
  have e2 : ((127 : Int) % 256).toNat = 2 ^ 7 - 1 := rfl
  rw [h1, e1, e2, Nat.and_two_pow_sub_one_eq_mod]
  have : wrapF .u8 ((x % 2 ^ 7 : Nat) : Int) = ((x % 128 : Nat) : Int) := by simp only [wrapF]; omega
  rw [this]
/-- Without the highest bit. -/
def mask7 (w : Nat → Nat) : Nat → Nat := fun j => if j = 31 then w 31 % 128 else w j
theorem mask7_lt {w : Nat → Nat} (hw : ∀ i, w i < 256) (i : Nat) : mask7 w i < 256 := by
  unfold mask7
  split
  · omega
  · exact hw i
theorem num32_mask (w : Nat → Nat) : num32 (mask7 w) = val [w 0, w 1, w 2, w 3, w 4, w 5, w 6, w 7, w 8, w 9, w 10, w 11, w 12, w 13, w 14, w 15, w 16, w 17, w 18, w 19, w 20, w 21, w 22, w 23, w 24, w 25, w 26, w 27, w 28, w 29, w 30, w 31 % 128] := rfl
theorem top7 {a b c d e f g h : Nat} (ha : a < 256) (hb : b < 256) (hc : c < 256) (hd : d < 256) (he : e < 256) (hf : f < 256) (hg : g < 256) (hh : h < 256) :
    (((((((h * 256 + g) * 256 + f) * 256 + e) * 256 + d) * 256 + c) * 256 + b) * 256 + a) % 9223372036854775808 = a + 256 * (b + 256 * (c + 256 * (d + 256 * (e + 256 * (f + 256 * (g + 256 * (h % 128))))))) := by omega
theorem loose_num {w : Nat → Nat} (hw : ∀ i, w i < 256) : looseF w = num32 (mask7 w) % p5 := by
  have key : v4 (accW w 0 8) (accW w 1 8) (accW w 2 8) (accW w 3 8 % 9223372036854775808) = num32 (mask7 w) := by
    have ht : accW w 3 8 % 9223372036854775808 = w 24 + 256 * (w 25 + 256 * (w 26 + 256 * (w 27 + 256 * (w 28 + 256 * (w 29 + 256 * (w 30 + 256 * (w 31 % 128))))))) := by
      have := top7 (hw 24) (hw 25) (hw 26) (hw 27) (hw 28) (hw 29) (hw 30) (hw 31)
      simp only [accW, Nat.reduceMul, Nat.reduceAdd, Nat.reduceSub, Nat.zero_mul, Nat.zero_add]
      exact this
    rw [ht, num32_mask]
    generalize w 31 % 128 = r
    simp only [val, v4, accW, Nat.reduceMul, Nat.reduceAdd, Nat.reduceSub, Nat.zero_mul, Nat.zero_add]
    omega
  unfold looseF
  rw [key, p5_eq]

theorem NumO.s {m : Mem} {nb nb0 : List Blk} {ow ow0 : List Nat} {j : Nat} {v : Value} {x : Nat} (h : NumO m nb ow j v x) (hn : NumN m nb0 ow0 j v x) : NumS (m ++ nb) v x := by
  rcases hn with ⟨rfl, rfl⟩ | ⟨L, n, k, h1, h2, rfl, h4, h5, hne⟩
  · exact .inl ⟨rfl, rfl⟩
  · rcases h with ⟨h6, _⟩ | ⟨_, h6⟩ | ⟨L', n', k', q1, q2, q3, q4, q5, qne⟩
    · cases h6
    · rcases h6 with h6 | ⟨b, a, c, h6, hb⟩
      · cases h6
      · simp only [Value.slice.injEq, Option.some.injEq, Addr.mk.injEq] at h6
        omega
    · right
      refine ⟨m.length + k', false, L', n', q3, q1, q2, ?_, qne⟩
      rw [List.getElem?_append_right (by omega), Nat.add_sub_cancel_left]
      exact q4

theorem sr7e : E.sr 7 rfre_7 = true := by kernel_rfl
theorem mk7e : E.mkr 7 rfre_7 = true := by kernel_rfl
theorem dep7e : depB E.P E.wr rfre_7 = true := by kernel_rfl
section
variable {self : Self} {nf : Nat} {m : Mem} {F : Nat → Value} {X Y : Nat} {wa wb : Nat → Nat}
theorem fre_0 {v2 : Value} (h0 : F 0 = arrK .u8 32 wa) (h1 : F 1 = arrK .u8 32 wb) : ∃ F', acodeN E self nf (.region 0 rfre_0 false) (lst F 140) m = some (.normal, lst F' 140, m ++ [.row false 56 (rowK .u8 32 wa)] ++ [.row false 56 (rowK .u8 32 wb)]) ∧ F' 2 = F 2 ∧ F' 3 = .pointer (some ⟨m.length, 0, none⟩) ∧ F' 4 = .pointer (some ⟨m.length + 1, 0, none⟩) := by
  have b1 := a46.box (w := wa) (m := m)
  have b2 := a46.box (w := wb) (m := m ++ [.row false 56 (rowK .u8 32 wa)])
  rw [show (m ++ [Blk.row false 56 (rowK .u8 32 wa)]).length = m.length + 1 by simp] at b2
  generalize arrK .u8 32 wa = va at *
  generalize arrK .u8 32 wb = vb at *
  simp only [↓zfre_3, ↓zfre_4, qfre_103, qfre_104, qfre_3, qfre_4, efre_0, efre_1, efre_10, efre_2, efre_3, efre_4, efre_5, efre_6, efre_7, efre_8, efre_9, lfre_0, lfre_1, lfre_2, lfre_3, lfre_4, lfre_5, lfre_6, lfre_7, lfre_8, lfre_9, lfre_10, gfre_10_13, gfre_10_23, gfre_10_36, gfre_10_5, gfre_8_12, gfre_8_22, gfre_8_32, gfre_8_4, gfre_8_42, gfre_8_51, gfre_8_59, agd_none, gdAt, gdV_bool, gdV_undef, Tryd.f7, List.append_eq, List.cons_append, List.nil_append, apure_call1, apure_call2, apure_call3, bft, btf, acodeN, List.getElem?_toArray, List.getElem?_cons_zero, List.getElem?_cons_succ, aopsN, adrawT, cls, astep, aop, afloat, ev, nth_lst, get_lst, aput, setAt_lst, upd_at, init_zero, init_succ, init_nil, Nat.reduceLT, Nat.reduceEqDiff, reduceIte, len_N, abuiltin_app, Option.map_some, Option.map_none, orElse_some, apure_add, apure_eqlV, eqlVal_str, eqlVal_bool, eqlVal_ptr, eqlVal_slice, eqlVal_wide, eqlVal_int, allT, ↓aop_eqlV, apure_neq, List.map_cons, List.map_nil, List.all_cons, List.all_nil, lit2, lit1, lit0, List.isEmpty_nil, Bool.and_self, Bool.and_true, Bool.true_and, Bool.false_and, Bool.and_false, Bool.not_true, Bool.not_false, Bool.or_true, Bool.true_or, Bool.false_or, Bool.or_false, Bool.false_eq_true, if_true, if_false, List.length_map, beq_self_eq_true, und3, und4, und5, und9, h0, h1, b1, b2]
  exact ⟨_, rfl, by simp only [upd_at, Nat.reduceEqDiff, reduceIte], by simp only [upd_at, Nat.reduceEqDiff, reduceIte], by simp only [upd_at, Nat.reduceEqDiff, reduceIte]⟩
theorem fre_1 (aw : ainv E self 35 [] m = some (.bool true, m)) : ∃ F', acodeN E self nf (.seq (.region 1 rfre_1 false) (.cond (.tmp 14) (.seq (.region 2 rfre_2 false) .ret) .skip)) (lst F 140) m = some (.normal, lst F' 140, m) ∧ F' 2 = F 2 ∧ F' 3 = F 3 ∧ F' 4 = F 4 := by
  simp only [↓zfre_3, ↓zfre_4, qfre_103, qfre_104, qfre_3, qfre_4, efre_0, efre_1, efre_10, efre_2, efre_3, efre_4, efre_5, efre_6, efre_7, efre_8, efre_9, lfre_0, lfre_1, lfre_2, lfre_3, lfre_4, lfre_5, lfre_6, lfre_7, lfre_8, lfre_9, lfre_10, gfre_10_13, gfre_10_23, gfre_10_36, gfre_10_5, gfre_8_12, gfre_8_22, gfre_8_32, gfre_8_4, gfre_8_42, gfre_8_51, gfre_8_59, agd_none, gdAt, gdV_bool, gdV_undef, Tryd.f7, List.append_eq, List.cons_append, List.nil_append, apure_call1, apure_call2, apure_call3, bft, btf, acodeN, List.getElem?_toArray, List.getElem?_cons_zero, List.getElem?_cons_succ, aopsN, adrawT, cls, astep, aop, afloat, ev, nth_lst, get_lst, aput, setAt_lst, upd_at, init_zero, init_succ, init_nil, Nat.reduceLT, Nat.reduceEqDiff, reduceIte, len_N, abuiltin_app, Option.map_some, Option.map_none, orElse_some, apure_add, apure_eqlV, eqlVal_str, eqlVal_bool, eqlVal_ptr, eqlVal_slice, eqlVal_wide, eqlVal_int, allT, ↓aop_eqlV, apure_neq, List.map_cons, List.map_nil, List.all_cons, List.all_nil, lit2, lit1, lit0, List.isEmpty_nil, Bool.and_self, Bool.and_true, Bool.true_and, Bool.false_and, Bool.and_false, Bool.not_true, Bool.not_false, Bool.or_true, Bool.true_or, Bool.false_or, Bool.or_false, Bool.false_eq_true, if_true, if_false, List.length_map, beq_self_eq_true, und3, und4, und5, und9, callAw5, aw, apure_un, notB']
  exact ⟨_, rfl, by simp only [upd_at, Nat.reduceEqDiff, reduceIte], by simp only [upd_at, Nat.reduceEqDiff, reduceIte], by simp only [upd_at, Nat.reduceEqDiff, reduceIte]⟩
theorem fre_4 {pa pb : Nat} (h3 : F 3 = .pointer (some ⟨pa, 0, none⟩)) (h4 : F 4 = .pointer (some ⟨pb, 0, none⟩)) (ga : m[pa]? = some (.row false 56 (rowK .u8 32 wa))) (gb : m[pb]? = some (.row false 56 (rowK .u8 32 wb))) :
    ∃ F', acodeN E self nf (.region 4 rfre_4 true) (lst F 140) m = some (.normal, lst F' 140, m ++ [.row false 56 (rowK .u8 32 wa), .row false 56 (rowK .u8 32 wb)]) ∧ F' 2 = F 2 ∧ F' 7 = F 7 ∧ F' 8 = F 8 ∧ F' 9 = .pointer (some ⟨m.length, 0, none⟩) ∧ F' 10 = .pointer (some ⟨m.length + 1, 0, none⟩) := by
  have la : aload E.P 56 (.pointer (some ⟨pa, 0, none⟩)) (m.map sealed) = some (arrK .u8 32 wa) := a46.load (ro := true) (be := 56) (by rw [List.getElem?_map, ga]; rfl)
  have lb : aload E.P 56 (.pointer (some ⟨pb, 0, none⟩)) (m.map sealed) = some (arrK .u8 32 wb) := a46.load (ro := true) (be := 56) (by rw [List.getElem?_map, gb]; rfl)
  have d1 : decide (pa < m.length) = true := decide_eq_true (List.getElem?_eq_some_iff.1 ga).1
  have d2 : decide (pb < m.length) = true := decide_eq_true (List.getElem?_eq_some_iff.1 gb).1
  have l1 := arrK_lit .u8 32 wa
  have l2 := arrK_lit .u8 32 wb
  have w1 := lay46 wa
  have w2 := lay46 wb
  generalize arrK .u8 32 wa = va at *
  generalize arrK .u8 32 wb = vb at *
  simp only [↓zfre_3, ↓zfre_4, qfre_103, qfre_104, qfre_3, qfre_4, efre_0, efre_1, efre_10, efre_2, efre_3, efre_4, efre_5, efre_6, efre_7, efre_8, efre_9, lfre_0, lfre_1, lfre_2, lfre_3, lfre_4, lfre_5, lfre_6, lfre_7, lfre_8, lfre_9, lfre_10, gfre_10_13, gfre_10_23, gfre_10_36, gfre_10_5, gfre_8_12, gfre_8_22, gfre_8_32, gfre_8_4, gfre_8_42, gfre_8_51, gfre_8_59, agd_none, gdAt, gdV_bool, gdV_undef, Tryd.f7, List.append_eq, List.cons_append, List.nil_append, apure_call1, apure_call2, apure_call3, bft, btf, acodeN, List.getElem?_toArray, List.getElem?_cons_zero, List.getElem?_cons_succ, aopsN, adrawT, cls, astep, aop, afloat, ev, nth_lst, get_lst, aput, setAt_lst, upd_at, init_zero, init_succ, init_nil, Nat.reduceLT, Nat.reduceEqDiff, reduceIte, abuiltin, alen, Option.map_some, Option.map_none, orElse_some, apure_add, apure_eqlV, eqlVal_str, eqlVal_bool, eqlVal_ptr, eqlVal_slice, eqlVal_wide, eqlVal_int, allT, ↓aop_eqlV, apure_neq, List.map_cons, List.map_nil, List.all_cons, List.all_nil, lit2, lit1, lit0, List.isEmpty_nil, Bool.and_self, Bool.and_true, Bool.true_and, Bool.false_and, Bool.and_false, Bool.not_true, Bool.not_false, Bool.or_true, Bool.true_or, Bool.false_or, Bool.or_false, Bool.false_eq_true, if_true, if_false, List.length_map, beq_self_eq_true, und3, und4, und5, und9, capsLit0, asr, asrT, contents, content, belowB, isCall, laterOk, eq_self, decide_true, Bool.and_self, h3, h4, la, lb, d1, d2, ↓l1, ↓l2, addr46, z46, w1, w2, Nat.add_zero]
  exact ⟨_, rfl, by simp only [upd_at, Nat.reduceEqDiff, reduceIte], by simp only [upd_at, Nat.reduceEqDiff, reduceIte], by simp only [upd_at, Nat.reduceEqDiff, reduceIte], by simp only [upd_at, Nat.reduceEqDiff, reduceIte, Nat.zero_add], by simp only [upd_at, Nat.reduceEqDiff, reduceIte, Nat.zero_add]⟩
theorem fre_5 {p : Nat} (h9 : F 9 = .pointer (some ⟨p, 0, none⟩)) (hp : m[p]? = some (.row false 56 (rowK .u8 32 wa))) (hw : ∀ i, wa i < 256) :
    ∃ F', acodeN E self nf (.region 5 rfre_5 false) (lst F 140) m = some (.normal, lst F' 140, m.set p (.row false 56 (rowK .u8 32 (mask7 wa)))) ∧ F' 2 = F 2 ∧ F' 7 = F 7 ∧ F' 8 = F 8 ∧ F' 9 = F 9 ∧ F' 10 = F 10 := by
  have i1 := a46.ix (p := p) (j := 31) (by omega)
  rw [show (((31 : Nat) : Int)) = 31 from rfl] at i1
  have c1 := cellK hp (j := 31) (by omega)
  have ld := a46.loadE p 31 m
  have a1 := and8_127 (hw 31)
  have st := a46.storeE (x := wa 31 % 128) hp (j := 31) (by omega)
  have hm : (fun q => if q = 31 then wa 31 % 128 else wa q) = mask7 wa := rfl
  rw [hm] at st
  simp only [↓zfre_3, ↓zfre_4, qfre_103, qfre_104, qfre_3, qfre_4, efre_0, efre_1, efre_10, efre_2, efre_3, efre_4, efre_5, efre_6, efre_7, efre_8, efre_9, lfre_0, lfre_1, lfre_2, lfre_3, lfre_4, lfre_5, lfre_6, lfre_7, lfre_8, lfre_9, lfre_10, gfre_10_13, gfre_10_23, gfre_10_36, gfre_10_5, gfre_8_12, gfre_8_22, gfre_8_32, gfre_8_4, gfre_8_42, gfre_8_51, gfre_8_59, agd_none, gdAt, gdV_bool, gdV_undef, Tryd.f7, List.append_eq, List.cons_append, List.nil_append, apure_call1, apure_call2, apure_call3, bft, btf, acodeN, List.getElem?_toArray, List.getElem?_cons_zero, List.getElem?_cons_succ, aopsN, adrawT, cls, astep, aop, afloat, ev, nth_lst, get_lst, aput, setAt_lst, upd_at, init_zero, init_succ, init_nil, Nat.reduceLT, Nat.reduceEqDiff, reduceIte, len_N, abuiltin_app, Option.map_some, Option.map_none, orElse_some, apure_add, apure_eqlV, eqlVal_str, eqlVal_bool, eqlVal_ptr, eqlVal_slice, eqlVal_wide, eqlVal_int, allT, ↓aop_eqlV, apure_neq, List.map_cons, List.map_nil, List.all_cons, List.all_nil, lit2, lit1, lit0, List.isEmpty_nil, Bool.and_self, Bool.and_true, Bool.true_and, Bool.false_and, Bool.and_false, Bool.not_true, Bool.not_false, Bool.or_true, Bool.true_or, Bool.false_or, Bool.or_false, Bool.false_eq_true, if_true, if_false, List.length_map, beq_self_eq_true, und3, und4, und5, und9, h9, i1, ld, c1, a1, st]
  exact ⟨_, rfl, by simp only [upd_at, Nat.reduceEqDiff, reduceIte], by simp only [upd_at, Nat.reduceEqDiff, reduceIte], by simp only [upd_at, Nat.reduceEqDiff, reduceIte], by simp only [upd_at, Nat.reduceEqDiff, reduceIte, h9], by simp only [upd_at, Nat.reduceEqDiff, reduceIte]⟩
theorem fre_6 {p : Nat} (h9 : F 10 = .pointer (some ⟨p, 0, none⟩)) (hp : m[p]? = some (.row false 56 (rowK .u8 32 wa))) (hw : ∀ i, wa i < 256) :
    ∃ F', acodeN E self nf (.region 6 rfre_6 false) (lst F 140) m = some (.normal, lst F' 140, m.set p (.row false 56 (rowK .u8 32 (mask7 wa)))) ∧ F' 2 = F 2 ∧ F' 7 = F 7 ∧ F' 8 = F 8 ∧ F' 9 = F 9 ∧ F' 10 = F 10 := by
  have i1 := a46.ix (p := p) (j := 31) (by omega)
  rw [show (((31 : Nat) : Int)) = 31 from rfl] at i1
  have c1 := cellK hp (j := 31) (by omega)
  have ld := a46.loadE p 31 m
  have a1 := and8_127 (hw 31)
  have st := a46.storeE (x := wa 31 % 128) hp (j := 31) (by omega)
  have hm : (fun q => if q = 31 then wa 31 % 128 else wa q) = mask7 wa := rfl
  rw [hm] at st
  simp only [↓zfre_3, ↓zfre_4, qfre_103, qfre_104, qfre_3, qfre_4, efre_0, efre_1, efre_10, efre_2, efre_3, efre_4, efre_5, efre_6, efre_7, efre_8, efre_9, lfre_0, lfre_1, lfre_2, lfre_3, lfre_4, lfre_5, lfre_6, lfre_7, lfre_8, lfre_9, lfre_10, gfre_10_13, gfre_10_23, gfre_10_36, gfre_10_5, gfre_8_12, gfre_8_22, gfre_8_32, gfre_8_4, gfre_8_42, gfre_8_51, gfre_8_59, agd_none, gdAt, gdV_bool, gdV_undef, Tryd.f7, List.append_eq, List.cons_append, List.nil_append, apure_call1, apure_call2, apure_call3, bft, btf, acodeN, List.getElem?_toArray, List.getElem?_cons_zero, List.getElem?_cons_succ, aopsN, adrawT, cls, astep, aop, afloat, ev, nth_lst, get_lst, aput, setAt_lst, upd_at, init_zero, init_succ, init_nil, Nat.reduceLT, Nat.reduceEqDiff, reduceIte, len_N, abuiltin_app, Option.map_some, Option.map_none, orElse_some, apure_add, apure_eqlV, eqlVal_str, eqlVal_bool, eqlVal_ptr, eqlVal_slice, eqlVal_wide, eqlVal_int, allT, ↓aop_eqlV, apure_neq, List.map_cons, List.map_nil, List.all_cons, List.all_nil, lit2, lit1, lit0, List.isEmpty_nil, Bool.and_self, Bool.and_true, Bool.true_and, Bool.false_and, Bool.and_false, Bool.not_true, Bool.not_false, Bool.or_true, Bool.true_or, Bool.false_or, Bool.or_false, Bool.false_eq_true, if_true, if_false, List.length_map, beq_self_eq_true, und3, und4, und5, und9, h9, i1, ld, c1, a1, st]
  exact ⟨_, rfl, by simp only [upd_at, Nat.reduceEqDiff, reduceIte], by simp only [upd_at, Nat.reduceEqDiff, reduceIte], by simp only [upd_at, Nat.reduceEqDiff, reduceIte], by simp only [upd_at, Nat.reduceEqDiff, reduceIte], by simp only [upd_at, Nat.reduceEqDiff, reduceIte, h9]⟩
theorem fre_7 {pc pd : Nat} (co : COf5 self) (h9 : F 9 = .pointer (some ⟨pc, 0, none⟩)) (h10 : F 10 = .pointer (some ⟨pd, 0, none⟩)) (gc : m[pc]? = some (.row false 56 (rowK .u8 32 wa))) (gd : m[pd]? = some (.row false 56 (rowK .u8 32 wb))) (ha : ∀ i, wa i < 256) (hb : ∀ i, wb i < 256) :
    ∃ F' nb, acodeN E self nf (.region 7 rfre_7 true) (lst F 140) m = some (.normal, lst F' 140, m ++ nb) ∧ F' 2 = F 2 ∧ F' 7 = F 7 ∧ F' 8 = F 8 ∧ NumS (m ++ nb) (F' 11) (num32 wa % p5) ∧ NumA (m ++ nb) (F' 12) (dig (num32 wb % p5)) := by
  suffices key : Ends2 (fun T nb => ∃ F', T = lst F' 140 ∧ F' 2 = F 2 ∧ F' 7 = F 7 ∧ F' 8 = F 8 ∧ NumS (m ++ nb) (F' 11) (num32 wa % p5) ∧ NumA (m ++ nb) (F' 12) (dig (num32 wb % p5))) (amkUT E self rfre_7 m rfre_7.toList 0 (lst F 140) [] []) by
    obtain ⟨_, nb, h1, F', rfl, h3⟩ := key
    have hr := amk_of dep7e h1
    refine ⟨F', nb, ?_, h3⟩
    simp only [acodeN, sr7e, mk7e, hr]
  have hpc := (List.getElem?_eq_some_iff.1 gc).1
  have hpd := (List.getElem?_eq_some_iff.1 gd).1
  have ldc : ∀ X : Mem, aload E.P 56 (.pointer (some ⟨pc, 0, none⟩)) ((m ++ X).map sealed) = some (arrK .u8 32 wa) := fun X => a46.load (ro := true) (be := 56) (by rw [List.getElem?_map, List.getElem?_append_left hpc, gc]; rfl)
  have ldd : ∀ X : Mem, aload E.P 56 (.pointer (some ⟨pd, 0, none⟩)) ((m ++ X).map sealed) = some (arrK .u8 32 wb) := fun X => a46.load (ro := true) (be := 56) (by rw [List.getElem?_map, List.getElem?_append_left hpd, gd]; rfl)
  have lowP : ∀ (i : Nat) (ow : List Nat) (p : Nat), p < m.length → belowP (pW rfre_7 i m.length ow) 4 (.pointer (some ⟨p, 0, none⟩)) = true := by
    intro i ow p hp
    show pW rfre_7 i m.length ow p = true
    unfold pW
    simp [hp]
  have lowA : ∀ (p : Nat → Bool) (w : Nat → Nat), belowP p 4 (arrK .u8 32 w) = true := by
    intro p w
    show (rowK .u8 32 w).all (belowP p 3) = true
    unfold rowK
    rw [List.all_map, List.all_eq_true]
    intro x _
    rfl
  rw [efre_7]
  simp only [lfre_7, Tryd.f7]
  refine k_lit 0 US.nil agd_none (by kernel_rfl) (by kernel_rfl) (by simp only [opsP, Op.operands, Call.operands, List.toList_toArray, Array.toList_append, Option.toArray, List.cons_append, List.nil_append, List.append_nil, List.all_cons, List.all_nil, ev, nth_lst, upd_at, Nat.reduceEqDiff, reduceIte, Nat.reduceLT, if_true, Bool.and_self, Bool.and_true, lowF, h9, lowP _ _ _ hpc]) (v := arrK .u8 32 wa) (M' := (m ++ maskN rfre_7 0 [] []).map Am.sealed) (by simp only [List.append_eq, List.cons_append, List.nil_append, apure_call1, apure_call2, apure_call3, bft, btf, acodeN, List.getElem?_toArray, List.getElem?_cons_zero, List.getElem?_cons_succ, aopsN, adrawT, cls, astep, aop, afloat, ev, nth_lst, get_lst, aput, setAt_lst, upd_at, init_zero, init_succ, init_nil, Nat.reduceLT, Nat.reduceEqDiff, reduceIte, len_N, abuiltin_app, Option.map_some, Option.map_none, orElse_some, apure_add, apure_eqlV, eqlVal_str, eqlVal_bool, eqlVal_ptr, eqlVal_slice, eqlVal_wide, eqlVal_int, allT, ↓aop_eqlV, apure_neq, List.map_cons, List.map_nil, List.all_cons, List.all_nil, lit2, lit1, lit0, List.isEmpty_nil, Bool.and_self, Bool.and_true, Bool.true_and, Bool.false_and, Bool.and_false, Bool.not_true, Bool.not_false, Bool.or_true, Bool.true_or, Bool.false_or, Bool.or_false, Bool.false_eq_true, if_true, if_false, List.length_map, beq_self_eq_true, und3, und4, und5, und9, h9, ldc]) (arrK_lit _ _ _) ?_
  simp only [aput, setAt_lst, Nat.reduceLT, if_true, Nat.reduceAdd]
  refine k_numN 1 (num32 wa % p5) US.nil agd_none (by kernel_rfl) (by kernel_rfl) (by kernel_rfl) (by simp only [opsP, Op.operands, Call.operands, List.toList_toArray, Array.toList_append, Option.toArray, List.cons_append, List.nil_append, List.append_nil, List.all_cons, List.all_nil, ev, nth_lst, upd_at, Nat.reduceEqDiff, reduceIte, Nat.reduceLT, if_true, Bool.and_self, Bool.and_true, lowF, lowA]) (by
      obtain ⟨v, M', h3, h4⟩ := co ((m ++ maskN rfre_7 1 [] []).map Am.sealed) wa ha
      refine ⟨v, M', ?_, h4⟩
      simp only [List.append_eq, List.cons_append, List.nil_append, apure_call1, apure_call2, apure_call3, bft, btf, acodeN, List.getElem?_toArray, List.getElem?_cons_zero, List.getElem?_cons_succ, aopsN, adrawT, cls, astep, aop, afloat, ev, nth_lst, get_lst, aput, setAt_lst, upd_at, init_zero, init_succ, init_nil, Nat.reduceLT, Nat.reduceEqDiff, reduceIte, len_N, abuiltin_app, Option.map_some, Option.map_none, orElse_some, apure_add, apure_eqlV, eqlVal_str, eqlVal_bool, eqlVal_ptr, eqlVal_slice, eqlVal_wide, eqlVal_int, allT, ↓aop_eqlV, apure_neq, List.map_cons, List.map_nil, List.all_cons, List.all_nil, lit2, lit1, lit0, List.isEmpty_nil, Bool.and_self, Bool.and_true, Bool.true_and, Bool.false_and, Bool.and_false, Bool.not_true, Bool.not_false, Bool.or_true, Bool.true_or, Bool.false_or, Bool.or_false, Bool.false_eq_true, if_true, if_false, List.length_map, beq_self_eq_true, und3, und4, und5, und9, callOf5]
      exact h3) fun v1 nb1 ow1 n1 us1 k1 => ?_
  simp only [aput, setAt_lst, Nat.reduceLT, if_true, Nat.reduceAdd]
  refine k_lit 0 us1 agd_none (by kernel_rfl) (by kernel_rfl) (by simp only [opsP, Op.operands, Call.operands, List.toList_toArray, Array.toList_append, Option.toArray, List.cons_append, List.nil_append, List.append_nil, List.all_cons, List.all_nil, ev, nth_lst, upd_at, Nat.reduceEqDiff, reduceIte, Nat.reduceLT, if_true, Bool.and_self, Bool.and_true, lowF, h10, lowP _ _ _ hpd]) (v := arrK .u8 32 wb) (M' := (m ++ maskN rfre_7 2 nb1 ow1).map Am.sealed) (by simp only [List.append_eq, List.cons_append, List.nil_append, apure_call1, apure_call2, apure_call3, bft, btf, acodeN, List.getElem?_toArray, List.getElem?_cons_zero, List.getElem?_cons_succ, aopsN, adrawT, cls, astep, aop, afloat, ev, nth_lst, get_lst, aput, setAt_lst, upd_at, init_zero, init_succ, init_nil, Nat.reduceLT, Nat.reduceEqDiff, reduceIte, len_N, abuiltin_app, Option.map_some, Option.map_none, orElse_some, apure_add, apure_eqlV, eqlVal_str, eqlVal_bool, eqlVal_ptr, eqlVal_slice, eqlVal_wide, eqlVal_int, allT, ↓aop_eqlV, apure_neq, List.map_cons, List.map_nil, List.all_cons, List.all_nil, lit2, lit1, lit0, List.isEmpty_nil, Bool.and_self, Bool.and_true, Bool.true_and, Bool.false_and, Bool.and_false, Bool.not_true, Bool.not_false, Bool.or_true, Bool.true_or, Bool.false_or, Bool.or_false, Bool.false_eq_true, if_true, if_false, List.length_map, beq_self_eq_true, und3, und4, und5, und9, h10, ldd]) (arrK_lit _ _ _) ?_
  simp only [aput, setAt_lst, Nat.reduceLT, if_true, Nat.reduceAdd]
  refine k_numN 1 (num32 wb % p5) us1 agd_none (by kernel_rfl) (by kernel_rfl) (by kernel_rfl) (by simp only [opsP, Op.operands, Call.operands, List.toList_toArray, Array.toList_append, Option.toArray, List.cons_append, List.nil_append, List.append_nil, List.all_cons, List.all_nil, ev, nth_lst, upd_at, Nat.reduceEqDiff, reduceIte, Nat.reduceLT, if_true, Bool.and_self, Bool.and_true, lowF, lowA]) (by
      obtain ⟨v, M', h3, h4⟩ := co ((m ++ maskN rfre_7 3 nb1 ow1).map Am.sealed) wb hb
      refine ⟨v, M', ?_, h4⟩
      simp only [List.append_eq, List.cons_append, List.nil_append, apure_call1, apure_call2, apure_call3, bft, btf, acodeN, List.getElem?_toArray, List.getElem?_cons_zero, List.getElem?_cons_succ, aopsN, adrawT, cls, astep, aop, afloat, ev, nth_lst, get_lst, aput, setAt_lst, upd_at, init_zero, init_succ, init_nil, Nat.reduceLT, Nat.reduceEqDiff, reduceIte, len_N, abuiltin_app, Option.map_some, Option.map_none, orElse_some, apure_add, apure_eqlV, eqlVal_str, eqlVal_bool, eqlVal_ptr, eqlVal_slice, eqlVal_wide, eqlVal_int, allT, ↓aop_eqlV, apure_neq, List.map_cons, List.map_nil, List.all_cons, List.all_nil, lit2, lit1, lit0, List.isEmpty_nil, Bool.and_self, Bool.and_true, Bool.true_and, Bool.false_and, Bool.and_false, Bool.not_true, Bool.not_false, Bool.or_true, Bool.true_or, Bool.false_or, Bool.or_false, Bool.false_eq_true, if_true, if_false, List.length_map, beq_self_eq_true, und3, und4, und5, und9, callOf5]
      exact h3) fun v3 nb3 ow3 n3 us3 k3 => ?_
  simp only [aput, setAt_lst, Nat.reduceLT, if_true, Nat.reduceAdd]
  refine k_float v1 agd_none (by kernel_rfl) (by kernel_rfl) (by simp only [List.append_eq, List.cons_append, List.nil_append, apure_call1, apure_call2, apure_call3, bft, btf, acodeN, List.getElem?_toArray, List.getElem?_cons_zero, List.getElem?_cons_succ, aopsN, adrawT, cls, astep, aop, afloat, ev, nth_lst, get_lst, aput, setAt_lst, upd_at, init_zero, init_succ, init_nil, Nat.reduceLT, Nat.reduceEqDiff, reduceIte, len_N, abuiltin_app, Option.map_some, Option.map_none, orElse_some, apure_add, apure_eqlV, eqlVal_str, eqlVal_bool, eqlVal_ptr, eqlVal_slice, eqlVal_wide, eqlVal_int, allT, ↓aop_eqlV, apure_neq, List.map_cons, List.map_nil, List.all_cons, List.all_nil, lit2, lit1, lit0, List.isEmpty_nil, Bool.and_self, Bool.and_true, Bool.true_and, Bool.false_and, Bool.and_false, Bool.not_true, Bool.not_false, Bool.or_true, Bool.true_or, Bool.false_or, Bool.or_false, Bool.false_eq_true, if_true, if_false, List.length_map, beq_self_eq_true, und3, und4, und5, und9, id_eq]) ?_
  simp only [aput, setAt_lst, Nat.reduceLT, if_true, Nat.reduceAdd]
  refine k_float v3 agd_none (by kernel_rfl) (by kernel_rfl) (by simp only [List.append_eq, List.cons_append, List.nil_append, apure_call1, apure_call2, apure_call3, bft, btf, acodeN, List.getElem?_toArray, List.getElem?_cons_zero, List.getElem?_cons_succ, aopsN, adrawT, cls, astep, aop, afloat, ev, nth_lst, get_lst, aput, setAt_lst, upd_at, init_zero, init_succ, init_nil, Nat.reduceLT, Nat.reduceEqDiff, reduceIte, len_N, abuiltin_app, Option.map_some, Option.map_none, orElse_some, apure_add, apure_eqlV, eqlVal_str, eqlVal_bool, eqlVal_ptr, eqlVal_slice, eqlVal_wide, eqlVal_int, allT, ↓aop_eqlV, apure_neq, List.map_cons, List.map_nil, List.all_cons, List.all_nil, lit2, lit1, lit0, List.isEmpty_nil, Bool.and_self, Bool.and_true, Bool.true_and, Bool.false_and, Bool.and_false, Bool.not_true, Bool.not_false, Bool.or_true, Bool.true_or, Bool.false_or, Bool.or_false, Bool.false_eq_true, if_true, if_false, List.length_map, beq_self_eq_true, und3, und4, und5, und9, id_eq]) ?_
  simp only [aput, setAt_lst, Nat.reduceLT, if_true, Nat.reduceAdd]
  refine k_end ⟨_, rfl, ?_⟩
  simp only [upd_at, Nat.reduceEqDiff, reduceIte]
  exact ⟨trivial, trivial, trivial, (k3 _ _ _ n1.o).s n1, n3.b.s.a⟩
end
end Go.Am.Seat

/-
  FieldReckons: the law (own work).
-/
set_option linter.unusedSimpArgs false
set_option linter.unusedVariables false
namespace Go.Am.Seat
open Go.Proofs Go.Am Go.Am.Num
set_option maxRecDepth 100000

/-- All that is asked of the calls. -/
structure ReAll (slf : Self) : Prop where
  rc : ReCalls slf
  lo : ∀ w, (∀ i, w i < 256) → Ans slf 36 [arrK .u8 32 w] (el (looseF w))
  n1 : ∀ X, X < P25519 → Ans slf 50 [el X] (.bool (decide (X % 2 = 1)))
  ze : ∀ X, X < P25519 → Ans slf 52 [el X] (.bool (decide (X = 0)))
  sm : ∀ X Y, X < P25519 → Y < P25519 → Ans slf 53 [el X, el Y] (.bool (decide (X = Y)))
  cn : CNeg5 slf
  cc : CCmp slf
  co : COf5 slf
  fo : ∀ (X Y : Nat), X < P25519 → Y < P25519 → ∀ (M : Mem) (q : Nat), M[q]? = some (.row false 58 (c12 X Y X)) → ainv E slf 54 [fAdd, .slice (some ⟨q, 0, none⟩) 3 3] M = some (el (((X + Y) % P25519 + X) % P25519), M)
  f0 : ∀ M, KT5 M → ainv E slf 54 [fAdd, .slice none 0 0] M = some (el 0, M)
  aw : ∀ M, KT5 M → ainv E slf 35 [] M = some (.bool true, M)

theorem set_get {m : Mem} {p k : Nat} {b : Blk} (h : k ≠ p) : (m.set p b)[k]? = m[k]? := List.getElem?_set_ne (fun e => h e.symm)
theorem fre_body {self : Self} {nf : Nat} {m : Mem} {a b : Nat → Nat} {n : Nat} (rl : ReAll self) (ha : ∀ i, a i < 256) (hb : ∀ i, b i < 256) (hn : n < 18446744073709551616) (hK : KT5 m) (hT : TabP m) :
    ∃ m', abody E self nf 7 [arrK .u8 32 a, arrK .u8 32 b, .int .u64 (n : Nat)] m = some (.bool true, m') := by
  rw [abody_eqF (by kernel_rfl) Tryd.func7 bodyfre (by kernel_rfl) (Nat.le_of_ble_eq_true rfl)]
  rw [show Tryd.f7.ntmps = 140 from rfl]
  obtain ⟨A, r0, a2, a3, a4⟩ := fre_0 (self := self) (nf := nf) (m := m) (F := init [arrK .u8 32 a, arrK .u8 32 b, .int .u64 (n : Nat)]) (v2 := undef) (wa := a) (wb := b) rfl rfl
  have a2 : A 2 = .int .u64 (n : Nat) := a2
  obtain ⟨D0, hD0⟩ : ∃ D, D = m ++ [Blk.row false 56 (rowK .u8 32 a)] ++ [Blk.row false 56 (rowK .u8 32 b)] := ⟨_, rfl⟩
  rw [← hD0] at r0
  have k0 : Kept m D0 := by rw [hD0]; exact (Kept.app _ _).trans (Kept.app _ _)
  have l0 : D0.length = m.length + 2 := by rw [hD0]; simp
  have ga : D0[m.length]? = some (.row false 56 (rowK .u8 32 a)) := by rw [hD0, List.append_assoc, List.getElem?_append_right (Nat.le_refl _)]; simp
  have gb : D0[m.length + 1]? = some (.row false 56 (rowK .u8 32 b)) := by rw [hD0, List.append_assoc, List.getElem?_append_right (by omega)]; simp
  obtain ⟨B, r1, b2, b3, b4⟩ := fre_1 (self := self) (nf := nf) (m := D0) (F := A) (rl.aw D0 (hK.on k0))
  have hX := looseF_lt a
  have hY := looseF_lt b
  have ea := loose_num ha
  have eb := loose_num hb
  obtain ⟨C, r3, c2, c3, c4, c7, c8⟩ := fre_3 (self := self) (nf := nf) (m := D0) (F := B) (X := looseF a) (Y := looseF b) (b3.trans a3) (b4.trans a4) ga gb (hK.on k0).1 (rl.lo a ha) (rl.lo b hb)
  generalize looseF a = X at *
  generalize looseF b = Y at *
  obtain ⟨D1, hD1⟩ : ∃ D, D = D0 ++ [rowEl X, rowEl Y] := ⟨_, rfl⟩
  rw [← hD1] at r3
  rw [l0] at c7 c8
  have k1 : Kept D0 D1 := by rw [hD1]; exact Kept.app _ _
  have l1 : D1.length = m.length + 4 := by rw [hD1]; simp [l0]
  have gx1 : D1[m.length + 2]? = some (rowEl X) := by rw [hD1, ← l0, List.getElem?_append_right (Nat.le_refl _)]; simp
  have gy1 : D1[m.length + 3]? = some (rowEl Y) := by rw [hD1, List.getElem?_append_right (by omega), l0, show m.length + 3 - (m.length + 2) = 1 by omega]; rfl
  obtain ⟨G, r4, d2, d7, d8, d9, d10⟩ := fre_4 (self := self) (nf := nf) (m := D1) (F := C) (wa := a) (wb := b) (c3.trans (b3.trans a3)) (c4.trans (b4.trans a4)) (by rw [k1.2 _ (by omega)]; exact ga) (by rw [k1.2 _ (by omega)]; exact gb)
  obtain ⟨D2, hD2⟩ : ∃ D, D = D1 ++ [Blk.row false 56 (rowK .u8 32 a), Blk.row false 56 (rowK .u8 32 b)] := ⟨_, rfl⟩
  rw [← hD2] at r4
  rw [l1] at d9 d10
  have l2 : D2.length = m.length + 6 := by rw [hD2]; simp [l1]
  have k2 : Kept D1 D2 := by rw [hD2]; exact Kept.app _ _
  have gc2 : D2[m.length + 4]? = some (.row false 56 (rowK .u8 32 a)) := by rw [hD2, ← l1, List.getElem?_append_right (Nat.le_refl _)]; simp
  have gd2 : D2[m.length + 5]? = some (.row false 56 (rowK .u8 32 b)) := by rw [hD2, List.getElem?_append_right (by omega), l1, show m.length + 5 - (m.length + 4) = 1 by omega]; rfl
  obtain ⟨H, r5, e2, e7, e8, e9, e10⟩ := fre_5 (self := self) (nf := nf) (m := D2) (F := G) (wa := a) d9 gc2 ha
  obtain ⟨D3, hD3⟩ : ∃ D, D = D2.set (m.length + 4) (.row false 56 (rowK .u8 32 (mask7 a))) := ⟨_, rfl⟩
  rw [← hD3] at r5
  have gc3 : D3[m.length + 4]? = some (.row false 56 (rowK .u8 32 (mask7 a))) := by rw [hD3, List.getElem?_set_self (by omega)]
  have gd3 : D3[m.length + 5]? = some (.row false 56 (rowK .u8 32 b)) := by rw [hD3, set_get (by omega)]; exact gd2
  obtain ⟨I, r6, f2, f7, f8, f9, f10⟩ := fre_6 (self := self) (nf := nf) (m := D3) (F := H) (wa := b) (e10.trans d10) gd3 hb
  obtain ⟨D4, hD4⟩ : ∃ D, D = D3.set (m.length + 5) (.row false 56 (rowK .u8 32 (mask7 b))) := ⟨_, rfl⟩
  rw [← hD4] at r6
  have l4 : D4.length = m.length + 6 := by rw [hD4, List.length_set, hD3, List.length_set]; exact l2
  have gc4 : D4[m.length + 4]? = some (.row false 56 (rowK .u8 32 (mask7 a))) := by rw [hD4, set_get (by omega)]; exact gc3
  have gd4 : D4[m.length + 5]? = some (.row false 56 (rowK .u8 32 (mask7 b))) := by rw [hD4, List.getElem?_set_self (by rw [hD3, List.length_set]; omega)]
  have low4 : ∀ k, k < m.length + 4 → D4[k]? = D1[k]? := fun k hk => by rw [hD4, set_get (by omega), hD3, set_get (by omega), k2.2 k (by omega)]
  obtain ⟨J, nb, r7, g2, g7, g8, nu, nv⟩ := fre_7 (self := self) (nf := nf) (m := D4) (F := I) (wa := mask7 a) (wb := mask7 b) rl.co (f9.trans (e9.trans d9)) (f10.trans (e10.trans d10)) gc4 gd4 (mask7_lt ha) (mask7_lt hb)
  rw [← ea] at nu
  rw [← eb] at nv
  obtain ⟨D5, hD5⟩ : ∃ D, D = D4 ++ nb := ⟨_, rfl⟩
  rw [← hD5] at r7 nu nv
  have low5 : ∀ k, k < m.length + 4 → D5[k]? = D1[k]? := fun k hk => by rw [hD5, List.getElem?_append_left (by omega), low4 k hk]
  have k5 : Kept m D5 := ⟨by rw [hD5]; simp; omega, fun k hk => by rw [low5 k (by omega), k1.2 k (by omega), k0.2 k hk]⟩
  have gx5 : D5[m.length + 2]? = some (rowEl X) := by rw [low5 _ (by omega)]; exact gx1
  have gy5 : D5[m.length + 3]? = some (rowEl Y) := by rw [low5 _ (by omega)]; exact gy1
  have j7 : J 7 = .pointer (some ⟨m.length + 2, 0, none⟩) := g7.trans (f7.trans (e7.trans (d7.trans c7)))
  have j8 : J 8 = .pointer (some ⟨m.length + 3, 0, none⟩) := g8.trans (f8.trans (e8.trans (d8.trans (by rw [c8]))))
  have j2 : J 2 = .int .u64 (n : Nat) := g2.trans (f2.trans (e2.trans (d2.trans (c2.trans (b2.trans a2)))))
  obtain ⟨K, D6, r8, k99, kk7, kk8, kk11, kk12, k6⟩ := fre_8 (self := self) (nf := nf) (m := D5) (F := J) rl.rc j2 hn j7 j8 rfl rfl gx5 gy5 hX hY nu nv (hT.on k5)
  obtain ⟨L, D7, r10, l6⟩ := fre_10 (self := self) (nf := nf) (m := D6) (F := K) rl.rc rl.n1 rl.ze rl.sm rl.cn rl.cc (rl.fo X Y hX hY) rl.f0 (kk7.trans j7) (kk8.trans j8) kk11 kk12 (by rw [k6.2 _ (List.getElem?_eq_some_iff.1 gx5).1]; exact gx5) (by rw [k6.2 _ (List.getElem?_eq_some_iff.1 gy5).1]; exact gy5) hX hY (nu.on k6) (nv.on k6) ((hK.on k5).on k6)
  refine ⟨D7, ?_⟩
  generalize Code.region 0 rfre_0 false = C0 at *
  generalize Code.seq (Code.region 1 rfre_1 false) (Code.cond (Operand.tmp 14) (Code.seq (Code.region 2 rfre_2 false) Code.ret) Code.skip) = C1 at *
  generalize Code.region 3 rfre_3 true = C3 at *
  generalize Code.region 4 rfre_4 true = C4 at *
  generalize Code.region 5 rfre_5 false = C5 at *
  generalize Code.region 6 rfre_6 false = C6 at *
  generalize Code.region 7 rfre_7 true = C7 at *
  generalize Code.region 8 rfre_8 false = C8 at *
  generalize Code.region 9 rfre_9 false = C9 at *
  generalize Code.region 10 rfre_10 false = C10 at *
  simp only [acodeN, r0, r1, r3, r4, r5, r6, r7, r8, ev, nth_lst, Nat.reduceLT, if_true, k99, r10, finish, ares, aresL, ares1, Tryd.f7, l6, Option.map_some]

/-- What goes through bodies here. -/
noncomputable abbrev RF : Nat → Self := fun n => runK E mem5 KB n
theorem hRF : Runs RF KB := runsK mem5 KB
section
variable {k : Nat} (hk : 1100 ≤ k)
include hk
theorem fMul : CMul (RF k) := by obtain ⟨j, rfl⟩ : ∃ j, k = j + 2 := ⟨k - 2, by omega⟩; exact cmul hRF rfl rfl (by omega)
theorem fAddR : CAdd (RF k) := by obtain ⟨j, rfl⟩ : ∃ j, k = j + 2 := ⟨k - 2, by omega⟩; exact cadd hRF rfl rfl (by omega)
theorem fAddL : CAddL (RF k) := by obtain ⟨j, rfl⟩ : ∃ j, k = j + 2 := ⟨k - 2, by omega⟩; exact caddL hRF rfl rfl (by omega)
theorem fSub : CSub (RF k) := by obtain ⟨j, rfl⟩ : ∃ j, k = j + 2 := ⟨k - 2, by omega⟩; exact csub hRF rfl rfl (by omega)
theorem fCmp : CCmp (RF k) := by obtain ⟨j, rfl⟩ : ∃ j, k = j + 1 := ⟨k - 1, by omega⟩; exact ccmp hRF rfl (by omega)
theorem fOf : COf (RF k) := by obtain ⟨j, rfl⟩ : ∃ j, k = j + 2 := ⟨k - 2, by omega⟩; exact cof hRF rfl rfl (by omega)
theorem fSmall : CSmall (RF k) := by obtain ⟨j, rfl⟩ : ∃ j, k = j + 1 := ⟨k - 1, by omega⟩; exact csmall hRF rfl (by omega)
theorem fP5 : CP5 (RF k) := by obtain ⟨j, rfl⟩ : ∃ j, k = j + 5 := ⟨k - 5, by omega⟩; exact cp5 (n := j + 4) hRF rfl (cmod (n := j + 3) hRF rfl (cdec (n := j) hRF rfl rfl rfl rfl rfl (by omega)))
omit hk in
theorem fRed (hk : 1101 ≤ k) : CRed (RF k) := by obtain ⟨j, rfl⟩ : ∃ j, k = j + 1 := ⟨k - 1, by omega⟩; exact cred (fun args m r h => hRF.b rfl h) (fMul (by omega)) (fAddL (by omega)) (fCmp (by omega)) (fSub (by omega)) (fP5 (by omega)) (by omega)
omit hk in
theorem fAdd5 (hk : 1102 ≤ k) : CAdd5 (RF k) := by obtain ⟨j, rfl⟩ : ∃ j, k = j + 1 := ⟨k - 1, by omega⟩; exact cadd5 hRF rfl (fAddR (by omega)) (fRed (by omega))
omit hk in
theorem fMul5 (hk : 1102 ≤ k) : CMul5 (RF k) := by obtain ⟨j, rfl⟩ : ∃ j, k = j + 1 := ⟨k - 1, by omega⟩; exact cmul5 hRF rfl (fMul (by omega)) (fRed (by omega))
omit hk in
theorem fSub5 (hk : 1102 ≤ k) : CSub5 (RF k) := by obtain ⟨j, rfl⟩ : ∃ j, k = j + 1 := ⟨k - 1, by omega⟩; exact csub5 hRF rfl (fAddR (by omega)) (fSub (by omega)) (fP5 (by omega)) (fRed (by omega))
theorem fNeg5 : CNeg5 (RF k) := by obtain ⟨j, rfl⟩ : ∃ j, k = j + 1 := ⟨k - 1, by omega⟩; exact cneg5 hRF rfl
omit hk in
theorem fAbs5 (hk : 1103 ≤ k) : CAbs5 (RF k) := by obtain ⟨j, rfl⟩ : ∃ j, k = j + 1 := ⟨k - 1, by omega⟩; exact cabs5 hRF rfl (fNeg5 (by omega)) (fSub5 (by omega))
theorem fByt5 : CByt5 (RF k) := by obtain ⟨j, rfl⟩ : ∃ j, k = j + 1 := ⟨k - 1, by omega⟩; exact cbyt5 hRF rfl (by omega)
omit hk in
theorem fOf5 (hk : 1102 ≤ k) : COf5 (RF k) := by obtain ⟨j, rfl⟩ : ∃ j, k = j + 1 := ⟨k - 1, by omega⟩; exact cof5 hRF rfl (by omega) (fOf (by omega)) (fRed (by omega))
end
theorem run_ans5 {self : Self} {g : FuncId} {args : List Value} {m : Mem} {v : Value} (h : ansIs v (self g args m) = true) : ∃ m1, self g args m = some (v, m1) ∧ lit2 v = true := by
  unfold ansIs at h
  split at h
  · rename_i u m1 hr
    simp only [Bool.and_eq_true] at h
    have := eqV_sound h.2
    subst this
    exact ⟨m1, hr, h.1⟩
  · cases h
theorem fold0_run : ansIs (el 0) (runK E mem5 KB 2000 54 [fAdd, .slice none 0 0] mem5) = true := by kernel_rfl
theorem awake5_run : ansIs (.bool true) (runK E mem5 KB 2000 35 [] mem5) = true := by kernel_rfl
theorem reAll : ReAll (runK E mem5 KB 2000) where
  rc := { fo := fun k hk => L_fo (MM := mem5) (n := 1999) noF_KB k hk
          ad := fun X Y hX hY => L_ad (MM := mem5) (n := 1997) noF_KB X Y hX hY
          sb := fun X Y hX hY => L_sb (MM := mem5) (n := 1996) noF_KB X Y hX hY
          mu := L_mul (MM := mem5) (n := 1997) noF_KB (by omega)
          sq := L_sq (MM := mem5) (n := 1996) noF_KB (by omega)
          ng := fun X hX => L_ng (MM := mem5) (n := 1997) noF_KB X hX
          ab := fun X hX => L_ab (MM := mem5) (n := 1996) noF_KB X hX
          cs := fSmall (k := 2000) (by omega)
          is := cis5 (n := 1999) hRF rfl (fun X => L_by (MM := mem5) (n := 1998) noF_KB (by omega) X) (fByt5 (k := 1999) (by omega))
          ra := fAdd5 (k := 2000) (by omega)
          rs := fSub5 (k := 2000) (by omega)
          rm := fMul5 (k := 2000) (by omega)
          rb := fAbs5 (k := 2000) (by omega) }
  lo := fun w hw => L_lo (MM := mem5) (n := 1997) noF_KB (by omega) w hw
  n1 := fun X hX => L_ng1 (MM := mem5) (n := 1999) noF_KB X hX
  ze := fun X hX => L_ze (MM := mem5) (n := 1999) noF_KB X hX
  sm := fun X Y hX hY => L_sm (MM := mem5) (n := 1999) noF_KB X Y hX hY
  cn := fNeg5 (k := 2000) (by omega)
  cc := fCmp (k := 2000) (by omega)
  co := fOf5 (k := 2000) (by omega)
  fo := fun X Y hX hY M q hq => cfold (n := 1999) hRF rfl (by omega) hq (L_ad (MM := mem5) (n := 1996) noF_KB X Y hX hY) (L_ad (MM := mem5) (n := 1996) noF_KB _ X (Nat.mod_lt _ (by decide +kernel)) hX)
  f0 := fun M hM => by
    obtain ⟨m1, h1, hv⟩ := run_ans5 fold0_run
    exact ainv_lit rfl (by kernel_rfl) (by rw [hM.2]; exact h1) hv
  aw := fun M hM => by
    obtain ⟨m1, h1, hv⟩ := run_ans5 awake5_run
    exact ainv_lit rfl (by kernel_rfl) (by rw [hM.2]; exact h1) hv
theorem KT5m : KT5 mem5 := ⟨Nat.le_of_ble_eq_true (by kernel_rfl), rfl⟩
/-- The law. -/
theorem lawFRe (a b : Nat → Nat) (n : Nat) (ha : ∀ i, a i < 256) (hb : ∀ i, b i < 256) (hn : n < 18446744073709551616) : ∃ m', runK E mem5 KB 2001 7 [arrK .u8 32 a, arrK .u8 32 b, .int .u64 (n : Nat)] mem5 = some (.bool true, m') := by
  rw [runK_other (rfl : hasF KB 7 = false)]
  exact fre_body reAll ha hb hn KT5m rfl
theorem lawFReW (a : List Int) (la : a.length = 32) (wa : ∀ n, n ∈ a → (Lit.int .u8 n).wf = true) (b : List Int) (lb : b.length = 32) (wb : ∀ n, n ∈ b → (Lit.int .u8 n).wf = true) (c : Int) (wc : (Lit.int .u64 c).wf = true) :
    ∃ m', runK E mem5 KB 2001 7 [.agg ⟨a.map (.int .u8)⟩, .agg ⟨b.map (.int .u8)⟩, .int .u64 c] mem5 = some (.bool true, m') := by
  rw [bytes_arr la wa, bytes_arr lb wb]
  unfold Lit.wf at wc
  simp only [Bool.and_eq_true, decide_eq_true_eq] at wc
  have h1 : IntKind.u64.min = 0 := by decide
  have h2 : IntKind.u64.max = 18446744073709551615 := by decide
  rw [h1, h2] at wc
  obtain ⟨k, rfl⟩ := Int.eq_ofNat_of_zero_le wc.1
  exact lawFRe _ _ k (fn8_lt wa) (fn8_lt wb) (by omega)
end Go.Am.Seat

/-
  The abstract memory at a law's start: tables that are laid, and package variables of which nothing is said (own work; nothing of a dump).
-/
set_option linter.unusedSimpArgs false
set_option linter.unusedVariables false
namespace Go.Am
noncomputable section

def ren0 (P : Program) (m : Mem) : Ren := fun k => match m[k]? with
  | some (.tab e cs) => some ⟨k, cs.length, ((P.info? e).map (·.size)).getD 0⟩
  | some _ => some ⟨k, 0, 0⟩
  | none => none

/-- What is asked of a block. -/
def BlkAt (P : Program) (W : World) (k : Nat) : Blk → Prop
  | .dead => True
  | .tab e cs => W.heap[k]? = some (.cells ⟨cs⟩ e (0, 0)) ∧ (P.info? e).isSome = true ∧ cs.all lit0 = true
  | .row .. => False

theorem mr_tabs {P : Program} {m : Mem} {W : World} (hG : P.globals.size ≤ m.length) (hsize : m.length ≤ W.heap.size) (hb : ∀ k b, m[k]? = some b → BlkAt P W k b) : MR P (ren0 P m) m W := by
  have hr : ∀ k x, ren0 P m k = some x → k < m.length ∧ x.r = k := by
    intro k x h
    unfold ren0 at h
    cases hm : m[k]? with
    | none => rw [hm] at h; cases h
    | some b =>
      have hk : k < m.length := (List.getElem?_eq_some_iff.1 hm).1
      rw [hm] at h
      cases b <;> (cases h; exact ⟨hk, rfl⟩)
  have hs : ∀ k, k < m.length → ∃ x, ren0 P m k = some x ∧ x.r = k := by
    intro k hk
    have hm : m[k]? = some m[k] := by simp [hk]
    cases hq : m[k] with
    | dead => exact ⟨_, by unfold ren0; rw [hm, hq], rfl⟩
    | row ro e cs => exact ⟨_, by unfold ren0; rw [hm, hq], rfl⟩
    | tab e cs => exact ⟨_, by unfold ren0; rw [hm, hq], rfl⟩
  have hl : ∀ k ro e cs, look m k = some (ro, e, cs) → m[k]? = some (.tab e cs) := by
    intro k ro e cs h
    unfold look at h
    split at h
    · rename_i b hm
      have := hb k b hm
      cases b with
      | dead => simp [Blk.cells?] at h
      | row => exact absurd this id
      | tab e' cs' =>
        simp [Blk.cells?] at h
        obtain ⟨_, rfl, rfl⟩ := h
        exact hm
    · cases h
  refine ⟨fun k hk => ?_, fun k x h => ?_, fun g hg => hs g (by omega), fun k ro e cs h => ?_, fun k e cs k' ro' e' cs' x x' h => ?_, fun k e cs h => ?_⟩
  · unfold ren0
    rw [List.getElem?_eq_none hk]
  · obtain ⟨h1, h2⟩ := hr k x h
    omega
  · have hm := hl k ro e cs h
    obtain ⟨h1, h2, h3⟩ := hb k _ hm
    refine ⟨⟨k, cs.length, ((P.info? e).map (·.size)).getD 0⟩, ⟨cs⟩, (0, 0), by unfold ren0; rw [hm], h1, rfl, Nat.le_refl _, fun i u hu => ⟨u, by simpa using hu, .lit ?_⟩, fun _ => loose_zero _, ?_⟩
    · exact lit2_of_lit1 (lit1_of_lit0 (List.all_eq_true.1 h3 u (List.mem_of_getElem? hu)))
    · cases hi : P.info? e with
      | none => rw [hi] at h2; cases h2
      | some i => rfl
  · exact absurd (hb k _ h) id
  · obtain ⟨_, _, h3⟩ := hb k _ h
    intro v hv
    exact List.all_eq_true.1 h3 v hv

/-- A package variable's block. -/
theorem shaped_at {P : Program} {W : World} (h : W.ShapedOpen P) {g : Nat} {t : TypeId} (hg : g < P.globals.size) (h0 : (((begin P (fun _ _ => 0) default).world.heap[g]?).bind Obj.row?).map (·.2) = some t) :
    ∃ cs, W.heap[g]? = some (.cells cs t (0, 0)) := by
  obtain ⟨⟨z, t'⟩, h1, h2⟩ := Option.map_eq_some_iff.1 h0
  simp only at h2
  subst h2
  obtain ⟨cs, hc, _⟩ := h.1 g z t' hg h1
  exact ⟨cs, hc⟩

theorem tab_at {P : Program} {W : World} {name : String} {k : IntKind} {zs : List Int} {g : Nat} {t : TypeId} {cs : Array Value} (hg : P.globalNamed name = some g) (hc : W.heap[g]? = some (.cells cs t (0, 0))) (h : Lib.TabIs P W name k zs) :
    W.heap[g]? = some (.cells ⟨zs.map (.int k)⟩ t (0, 0)) := by
  unfold Lib.TabIs World.var? at h
  rw [hg] at h
  simp only [Option.bind_some, hc] at h
  cases h
  exact hc

theorem laid_tail {P : Program} {x : String × DataW Unit} {r : List (String × DataW Unit)} {w : World} (h : laidMet P (x :: r) w) : laidMet P r w := by
  obtain ⟨ps, hv, hnd, hrows⟩ := h
  obtain ⟨n, d⟩ := x
  obtain ⟨g, t, cs, fuel, p, q, _, _, _, _, hq, rfl⟩ := hv
  exact ⟨q, hq, List.Nodup.sublist (List.sublist_append_right _ _) hnd, fun b off hm => hrows b off (List.mem_append_right _ hm)⟩

/-- How a law's call ends, seen from outside: what was there stands as it stood. -/
theorem below_of_ends {P : Program} {ρ : Ren} {m m1 : Mem} {w w1 : World} {v : Value} {e : Ending} (hm : ∀ (k : Nat) (e : TypeId) (cs : List Value), m[k]? ≠ some (Blk.row false e cs)) (hv : lit2 v = true) (h : Ends P ρ m w v m1 e w1) : e = .returned v ∧ Go.RowKit.Below w.heap.size w w1 := by
  obtain ⟨v', ρ1, rfl, hvr, _, hx⟩ := h
  refine ⟨?_, ⟨hx.os, hx.tape, hx.output, hx.size, fun r hr => hx.kept r hr fun k e cs _ hk _ => absurd hk (hm k e cs)⟩⟩
  rw [hvr.eq_of_lit2 hv]
end
end Go.Am

/-
  An array of numbers as a law's argument (own work; nothing of a dump).
-/
set_option linter.unusedSimpArgs false
set_option linter.unusedVariables false
namespace Go.Am
theorem mapM_spec {α β : Type} (f : α → Option β) : ∀ (l : List α) (xs : List β), l.mapM f = some xs → xs.length = l.length ∧ ∀ (i : Nat) (a : α), l[i]? = some a → ∃ x, xs[i]? = some x ∧ f a = some x
  | [], xs, h => by
    simp only [List.mapM_nil, Option.pure_def, Option.some.injEq] at h
    subst h
    exact ⟨rfl, fun i a ha => by simp at ha⟩
  | b :: l, xs, h => by
    simp only [List.mapM_cons, Option.pure_def, Option.bind_eq_bind] at h
    obtain ⟨x, hx, h⟩ := Option.bind_eq_some_iff.1 h
    obtain ⟨ys, hy, h⟩ := Option.bind_eq_some_iff.1 h
    cases h
    obtain ⟨h1, h2⟩ := mapM_spec f l ys hy
    refine ⟨by simp [h1], fun i a ha => ?_⟩
    cases i with
    | zero => simp at ha; subst ha; exact ⟨x, rfl, hx⟩
    | succ i => simp at ha; simpa using h2 i a ha
theorem mapM_mk {α β : Type} {f : α → Option β} {g : α → β} : ∀ (l : List α), (∀ a, a ∈ l → f a = some (g a)) → l.mapM f = some (l.map g)
  | [], _ => rfl
  | b :: l, h => by
    simp only [List.mapM_cons, Option.pure_def, Option.bind_eq_bind, List.map_cons]
    rw [h b (by simp), mapM_mk l fun a ha => h a (by simp [ha])]
    rfl
theorem take_one {α : Type} {l : List α} {i : Nat} (h : i < l.length) : (l.drop i).take 1 = [l[i]] := by
  rw [List.drop_eq_getElem_cons h]
  rfl

variable {H : Type} {enc : TypeId × Value → H} {P : Program} {W : World} {base : Nat} {spare : Nat → Bool} {held : Bool}

theorem open_arr {r : Reach} {b0 : Nat} {t e : TypeId} {n : Nat} {k : IntKind} {v : Value} {d : DataW H} {ps : List MemPlace} (ht : P.underlying t = some (.array n e)) (he : P.underlying e = some (.int k)) (hc : P.cellsOf t = n) (hce : P.cellsOf e = 1)
    (hval : Value.okWide P W r b0 t v) (hd : DataW.Trod enc P W base spare held t v d ps) :
    ∃ l : List Int, l.length = n ∧ v = .agg ⟨l.map (.int k)⟩ ∧ d = .agg (l.map fun x => .lit (.int k x)) ∧ ps = [] ∧ ∀ x, x ∈ l → (Lit.int k x).wf = true := by
  unfold Value.okWide at hval
  simp only [ht] at hval
  obtain ⟨⟨cs⟩, rfl, hsz, _⟩ := hval
  have hlen : cs.length = n := by rw [hc] at hsz; simpa using hsz
  obtain ⟨fuel, hf⟩ := hd
  cases fuel with
  | zero => simp [DataW.trod] at hf
  | succ fuel =>
    unfold DataW.trod at hf
    simp only [ht, Value.cells, hlen, hc, hce, if_true, Nat.mul_one] at hf
    obtain ⟨xs, hx, hd⟩ := Option.map_eq_some_iff.1 hf
    obtain ⟨h1, h2⟩ := mapM_spec _ _ _ hx
    have hxl : xs.length = n := by rw [h1]; simp
    have key : ∀ i, i < n → ∃ x : Int, cs[i]? = some (.int k x) ∧ xs[i]? = some (.lit (.int k x), []) ∧ (Lit.int k x).wf = true := by
      intro i hi
      obtain ⟨x, hx1, hx2⟩ := h2 i i (List.getElem?_range hi)
      rw [take_one (by omega)] at hx2
      obtain ⟨y, g, rfl, w⟩ := DataW.trod_int he hx2
      simp only [List.cons.injEq, and_true] at g
      exact ⟨y, by rw [← g]; simp [hlen, hi], hx1, w⟩
    let l : List Int := cs.map fun v => match v with | .int _ x => x | _ => 0
    have hl : l.length = n := by simp [l, hlen]
    have hget : ∀ i, i < n → ∃ x : Int, l[i]? = some x ∧ cs[i]? = some (.int k x) ∧ xs[i]? = some (.lit (.int k x), []) ∧ (Lit.int k x).wf = true := by
      intro i hi
      obtain ⟨x, a1, a2, a3⟩ := key i hi
      exact ⟨x, by simp [l, a1], a1, a2, a3⟩
    have e1 : cs = l.map (.int k) := by
      apply List.ext_getElem?
      intro i
      by_cases hi : i < n
      · obtain ⟨x, a0, a1, _⟩ := hget i hi
        rw [a1, List.getElem?_map, a0]; rfl
      · rw [List.getElem?_eq_none (by omega), List.getElem?_eq_none (by simp; omega)]
    have e2 : xs = l.map fun x => (.lit (.int k x), []) := by
      apply List.ext_getElem?
      intro i
      by_cases hi : i < n
      · obtain ⟨x, a0, _, a2, _⟩ := hget i hi
        rw [a2, List.getElem?_map, a0]; rfl
      · rw [List.getElem?_eq_none (by omega), List.getElem?_eq_none (by simp; omega)]
    have e3 : (l.map fun x => ((.lit (.int k x), []) : DataW H × List MemPlace)).flatMap (·.2) = [] := by
      rw [List.flatMap_map]
      simp
    rw [e2] at hd
    simp only [Prod.mk.injEq] at hd
    obtain ⟨d1, d2⟩ := hd
    refine ⟨l, hl, by rw [e1], ?_, ?_, ?_⟩
    · rw [← d1, List.map_map]; rfl
    · rw [← d2]; exact e3
    · intro x hx
      obtain ⟨i, hi, rfl⟩ := List.mem_iff_getElem.1 hx
      obtain ⟨y, a0, _, _, a3⟩ := hget i (by omega)
      rw [List.getElem?_eq_getElem hi] at a0
      cases a0
      exact a3

theorem shut_arr {t e : TypeId} {n : Nat} {k : IntKind} {l : List Int} (ht : P.underlying t = some (.array n e)) (he : P.underlying e = some (.int k)) (hc : P.cellsOf t = n) (hce : P.cellsOf e = 1) (hl : l.length = n) (hw : ∀ x, x ∈ l → (Lit.int k x).wf = true) :
    DataW.Trod enc P W base spare held t (.agg ⟨l.map (.int k)⟩) (.agg (l.map fun x => .lit (.int k x))) [] := by
  refine ⟨2, ?_⟩
  unfold DataW.trod
  simp only [ht, Value.cells, List.length_map, hl, hc, hce, if_true, Nat.mul_one]
  have h : (List.range n).mapM (fun i => DataW.trod enc P W base spare held 1 e (List.take 1 (List.drop i (l.map (Value.int k))))) = some ((List.range n).map fun i => ((.lit (.int k (l.getD i 0)), []) : DataW H × List MemPlace)) := by
    refine mapM_mk _ fun i hi => ?_
    have hi' : i < l.length := by rw [hl]; exact List.mem_range.1 hi
    rw [take_one (by simpa using hi')]
    have hg : l.getD i 0 = l[i] := by simp [hi']
    rw [hg]
    simp only [List.getElem_map, DataW.trod, he, hw l[i] (List.getElem_mem hi'), and_self, if_true]
  rw [h]
  have e1 : (List.range n).map (fun i => (DataW.lit (.int k (l.getD i 0)) : DataW H)) = l.map fun x => .lit (.int k x) := by
    apply List.ext_getElem?
    intro i
    by_cases hi : i < n
    · have hi' : i < l.length := by omega
      simp [hi, hi']
    · rw [List.getElem?_eq_none (by simp; omega), List.getElem?_eq_none (by simp; omega)]
  have e2 : ((List.range n).map fun i => ((.lit (.int k (l.getD i 0)), []) : DataW H × List MemPlace)).flatMap (·.2) = [] := by
    rw [List.flatMap_map]
    simp
  simp only [Option.map_some, List.map_map]
  rw [e2]
  congr 3
end Go.Am
