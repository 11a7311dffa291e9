/-
  Texts of my own, put together: Y12, Y13, Y14, Y15, FP0.
-/
import Derived.Test.YtfgincdpgdlfnaaDoorGrLimbTexts19
import Derived.Test.YtfgincdpgdlfnaaDoorGrLimbTexts18
set_option linter.unusedSimpArgs false
set_option linter.unusedVariables false
set_option maxRecDepth 100000
namespace Go.Am.Seat
open Go.Proofs Go.Am
noncomputable def rrdec_0 : Array Oper := match Tryd.f10.body with
  | some (.seq (.region _ o _) _) => o
  | _ => #[]
noncomputable def lrdec_0 : List Oper := match Tryd.f10.body with
  | some (.seq (.region _ o _) _) => o.toList
  | _ => []
theorem erdec_0 : rrdec_0.toList = lrdec_0 := rfl
noncomputable def rrdec_1 : Array Oper := match Tryd.f10.body with
  | some (.seq _ (.seq (.seq (.region _ o _) _) _)) => o
  | _ => #[]
noncomputable def lrdec_1 : List Oper := match Tryd.f10.body with
  | some (.seq _ (.seq (.seq (.region _ o _) _) _)) => o.toList
  | _ => []
theorem erdec_1 : rrdec_1.toList = lrdec_1 := rfl
theorem grdec_1_3 {T : List Value} {dd : Option Tmp} {op : Op} {ty : TypeId} {pos : String} {af : Array Edge} {want : Bool} : agd rrdec_1 T { dst := dd, op := op, type := ty, pos := pos, after := af, guard := some (3, want) } = gdAt T 9 want := agd_at (by kernel_rfl)
theorem grdec_1_7 {T : List Value} {dd : Option Tmp} {op : Op} {ty : TypeId} {pos : String} {af : Array Edge} {want : Bool} : agd rrdec_1 T { dst := dd, op := op, type := ty, pos := pos, after := af, guard := some (7, want) } = gdAt T 13 want := agd_at (by kernel_rfl)
noncomputable def rrdec_2 : Array Oper := match Tryd.f10.body with
  | some (.seq _ (.seq (.seq _ (.cond _ (.seq (.region _ o _) _) _)) _)) => o
  | _ => #[]
noncomputable def lrdec_2 : List Oper := match Tryd.f10.body with
  | some (.seq _ (.seq (.seq _ (.cond _ (.seq (.region _ o _) _) _)) _)) => o.toList
  | _ => []
theorem erdec_2 : rrdec_2.toList = lrdec_2 := rfl
noncomputable def rrdec_3 : Array Oper := match Tryd.f10.body with
  | some (.seq _ (.seq _ (.seq (.region _ o _) _))) => o
  | _ => #[]
noncomputable def lrdec_3 : List Oper := match Tryd.f10.body with
  | some (.seq _ (.seq _ (.seq (.region _ o _) _))) => o.toList
  | _ => []
theorem erdec_3 : rrdec_3.toList = lrdec_3 := rfl
noncomputable def rrdec_4 : Array Oper := match Tryd.f10.body with
  | some (.seq _ (.seq _ (.seq _ (.seq (.seq (.region _ o _) _) _)))) => o
  | _ => #[]
noncomputable def lrdec_4 : List Oper := match Tryd.f10.body with
  | some (.seq _ (.seq _ (.seq _ (.seq (.seq (.region _ o _) _) _)))) => o.toList
  | _ => []
theorem erdec_4 : rrdec_4.toList = lrdec_4 := rfl
noncomputable def lprdec_0 : Code := match Tryd.f10.body with
  | some (.seq _ (.seq _ (.seq _ (.seq (.seq _ (.block _ (.loop c))) _)))) => c
  | _ => .skip
noncomputable def rrdec_5 : Array Oper := match Tryd.f10.body with
  | some (.seq _ (.seq _ (.seq _ (.seq (.seq _ (.block _ (.loop (.seq (.seq (.region _ o _) _) _)))) _)))) => o
  | _ => #[]
noncomputable def lrdec_5 : List Oper := match Tryd.f10.body with
  | some (.seq _ (.seq _ (.seq _ (.seq (.seq _ (.block _ (.loop (.seq (.seq (.region _ o _) _) _)))) _)))) => o.toList
  | _ => []
theorem erdec_5 : rrdec_5.toList = lrdec_5 := rfl
noncomputable def rrdec_7 : Array Oper := match Tryd.f10.body with
  | some (.seq _ (.seq _ (.seq _ (.seq (.seq _ (.block _ (.loop (.seq _ (.seq (.block _ (.seq (.seq (.region _ o _) _) _)) _))))) _)))) => o
  | _ => #[]
noncomputable def lrdec_7 : List Oper := match Tryd.f10.body with
  | some (.seq _ (.seq _ (.seq _ (.seq (.seq _ (.block _ (.loop (.seq _ (.seq (.block _ (.seq (.seq (.region _ o _) _) _)) _))))) _)))) => o.toList
  | _ => []
theorem erdec_7 : rrdec_7.toList = lrdec_7 := rfl
theorem grdec_7_4 {T : List Value} {dd : Option Tmp} {op : Op} {ty : TypeId} {pos : String} {af : Array Edge} {want : Bool} : agd rrdec_7 T { dst := dd, op := op, type := ty, pos := pos, after := af, guard := some (4, want) } = gdAt T 29 want := agd_at (by kernel_rfl)
noncomputable def rrdec_8 : Array Oper := match Tryd.f10.body with
  | some (.seq _ (.seq _ (.seq _ (.seq (.seq _ (.block _ (.loop (.seq _ (.seq (.block _ (.seq (.seq _ (.cond _ (.seq (.region _ o _) _) _)) _)) _))))) _)))) => o
  | _ => #[]
noncomputable def lrdec_8 : List Oper := match Tryd.f10.body with
  | some (.seq _ (.seq _ (.seq _ (.seq (.seq _ (.block _ (.loop (.seq _ (.seq (.block _ (.seq (.seq _ (.cond _ (.seq (.region _ o _) _) _)) _)) _))))) _)))) => o.toList
  | _ => []
theorem erdec_8 : rrdec_8.toList = lrdec_8 := rfl
noncomputable def rrdec_9 : Array Oper := match Tryd.f10.body with
  | some (.seq _ (.seq _ (.seq _ (.seq (.seq _ (.block _ (.loop (.seq _ (.seq (.block _ (.seq _ (.region _ o _))) _))))) _)))) => o
  | _ => #[]
noncomputable def lrdec_9 : List Oper := match Tryd.f10.body with
  | some (.seq _ (.seq _ (.seq _ (.seq (.seq _ (.block _ (.loop (.seq _ (.seq (.block _ (.seq _ (.region _ o _))) _))))) _)))) => o.toList
  | _ => []
theorem erdec_9 : rrdec_9.toList = lrdec_9 := rfl
noncomputable def rrdec_6 : Array Oper := match Tryd.f10.body with
  | some (.seq _ (.seq _ (.seq _ (.seq (.seq _ (.block _ (.loop (.seq _ (.seq _ (.region _ o _)))))) _)))) => o
  | _ => #[]
noncomputable def lrdec_6 : List Oper := match Tryd.f10.body with
  | some (.seq _ (.seq _ (.seq _ (.seq (.seq _ (.block _ (.loop (.seq _ (.seq _ (.region _ o _)))))) _)))) => o.toList
  | _ => []
theorem erdec_6 : rrdec_6.toList = lrdec_6 := rfl
theorem lprdec_0_eq : lprdec_0 = (.seq (.seq (.region 5 rrdec_5 false) (.cond (.tmp 22) .skip (.exit 0))) (.seq (.block 1 (.seq (.seq (.region 7 rrdec_7 false) (.cond (.tmp 34) (.seq (.region 8 rrdec_8 false) .ret) .skip)) (.region 9 rrdec_9 true))) (.region 6 rrdec_6 false))) := rfl
noncomputable def rrdec_10 : Array Oper := match Tryd.f10.body with
  | some (.seq _ (.seq _ (.seq _ (.seq _ (.seq (.region _ o _) _))))) => o
  | _ => #[]
noncomputable def lrdec_10 : List Oper := match Tryd.f10.body with
  | some (.seq _ (.seq _ (.seq _ (.seq _ (.seq (.region _ o _) _))))) => o.toList
  | _ => []
theorem erdec_10 : rrdec_10.toList = lrdec_10 := rfl
theorem bodyrdec : Tryd.f10.body = some (.seq (.region 0 rrdec_0 false) (.seq (.seq (.region 1 rrdec_1 false) (.cond (.tmp 18) (.seq (.region 2 rrdec_2 false) .ret) .skip)) (.seq (.region 3 rrdec_3 false) (.seq (.seq (.region 4 rrdec_4 false) (.block 0 (.loop lprdec_0))) (.seq (.region 10 rrdec_10 false) .ret))))) := rfl
-- ntmps 46
theorem callMulR : callableB E.P 20 = true := by kernel_rfl
theorem callAddR : callableB E.P 19 = true := by kernel_rfl
theorem callSml : callableB E.P 21 = true := by kernel_rfl
theorem dig10 : dig 10 = [10] := by rw [dig_pos (by omega)]; rw [show 10 / 256 = 0 from rfl, dig_zero]
theorem ch21 : chainB rrdec_9 4 2 1 = true := by kernel_rfl
theorem ch81 : chainB rrdec_9 4 8 1 = true := by kernel_rfl
theorem ch82 : chainB rrdec_9 4 8 2 = true := by kernel_rfl
theorem ch91 : chainB rrdec_9 4 9 1 = true := by kernel_rfl
theorem ch92 : chainB rrdec_9 4 9 2 = true := by kernel_rfl
theorem ch98 : chainB rrdec_9 4 9 8 = true := by kernel_rfl
theorem dep9 : useU E.P E.wr rrdec_9 = true := by kernel_rfl
theorem mask_all {ops : Array Oper} {i : Nat} : ∀ {nb : List Blk} {ow : List Nat}, nb.length = ow.length → (∀ j ∈ ow, chainB ops 4 i j = true) → maskN ops i nb ow = nb
  | [], [], _, _ => rfl
  | b :: nb, j :: ow, hl, h => by
    have h1 := h j (by simp)
    have ih := mask_all (ops := ops) (i := i) (nb := nb) (ow := ow) (by simpa using hl) (fun k hk => h k (by simp [hk]))
    unfold maskN at ih ⊢
    rw [List.zip_cons_cons, List.map_cons, ih]
    simp [h1]
theorem pw_all {ops : Array Oper} {i n : Nat} {ow : List Nat} (h : ∀ j ∈ ow, chainB ops 4 i j = true) : ∀ k, k < n + ow.length → pW ops i n ow k = true := by
  intro k hk
  unfold pW
  by_cases h1 : k < n
  · simp [h1]
  · have h2 : k - n < ow.length := by omega
    rw [List.getElem?_eq_getElem h2]
    simp only [h _ (List.getElem_mem h2), Bool.or_true]
theorem rows_num (p : Nat → Bool) : ∀ (l : List Blk), (∀ b ∈ l, ∃ L, b = .row false 3 (cellsN L)) → rowsP p l = true := by
  intro l h
  unfold rowsP
  rw [List.all_eq_true]
  intro b hb
  obtain ⟨L, rfl⟩ := h b hb
  exact cellsN_below p L
theorem acollAt_row {M : Mem} {ro : Bool} {e : TypeId} {cs : List Value} {k c N : Nat} (hN : N = M.length) (hc : cs.all lit0 = true) : acollAt N N (.slice (some ⟨M.length, 0, none⟩) k c) (M ++ [.row ro e cs]) = some (.slice (some ⟨N, 0, none⟩) k c, [.row ro e cs]) := by
  subst hN
  exact acollAt_new (Nat.le_refl _) (by simp) hc
theorem sub48 {x : Nat} (h : 48 ≤ x) : abin .sub .u8 ((x : Nat) : Int) .u8 48 = some (.int .u8 (wrapF .u8 (((x : Nat) : Int) - 48))) := by
  have h2 : ∀ k : Int, abin .sub .u8 k .u8 48 = some (.int .u8 (wrapF .u8 (k - 48))) := fun k => by kernel_rfl
  exact h2 _
theorem wr48 {x : Nat} (h : 48 ≤ x) (h9 : x < 256) : wrapF .u8 (((x : Nat) : Int) - 48) = ((x - 48 : Nat) : Int) := by
  simp only [wrapF]
  omega
theorem conv5u {x : Nat} (h : x < 256) : aconv E.P 5 22 (.int .u8 ((x : Nat) : Int)) = some (.int .u64 ((x : Nat) : Int)) := by
  have h2 : ∀ k : Int, aconv E.P 5 22 (.int .u8 k) = some (.int .u64 (wrapF .u64 k)) := fun k => by kernel_rfl
  rw [h2]
  have : wrapF .u64 ((x : Nat) : Int) = ((x : Nat) : Int) := by
    simp only [wrapF]
    omega
  rw [this]
theorem rows_app {l l' : List Blk} (h : ∀ b ∈ l, ∃ L, b = .row false 3 (cellsN L)) (h' : l' = [] ∨ ∃ L, l' = [.row false 3 (cellsN L)]) : ∀ b ∈ l ++ l', ∃ L, b = Blk.row false 3 (cellsN L) := by
  intro b hb
  rcases List.mem_append.1 hb with h1 | h1
  · exact h b h1
  · rcases h' with rfl | ⟨L, rfl⟩
    · cases h1
    · exact ⟨L, by simpa using h1⟩
theorem dig_times10 {x k : Nat} (h : (dig x).length ≤ k) : (dig (x * 10)).length ≤ k + 1 := by
  refine dig_len_le ?_
  have h1 := lt_dig_len x
  have h9 : 256 ^ (dig x).length ≤ 256 ^ k := Nat.pow_le_pow_right (by omega) h
  rw [Nat.pow_succ]
  omega
theorem dec9 {self : Self} {m : Mem} {F : Nat → Value} {v : Value} {s : ByteArray} {i x : Nat} {ch : UInt8} (cm : CMul self) (cs : CSmall self) (ca : CAdd self) (h4 : F 4 = v) (h0 : F 0 = .string s) (h5 : F 5 = .int .i64 (i : Nat)) (hx : s.data.toList[i]? = some ch) (hc1 : 48 ≤ ch.toNat) (hc2 : ch.toNat ≤ 57)
    (hv : NumA m v (dig x)) (hin : NumIn m.length v) (hl : (dig x).length ≤ 390) :
    ∃ F' m', amk E self rrdec_9 (lst F 46) m = some (lst F' 46, m') ∧ F' 0 = F 0 ∧ F' 5 = F 5 ∧ NumA m' (F' 4) (dig (x * 10 + (ch.toNat - 48))) ∧ NumIn m'.length (F' 4) ∧ NumB m.length (F' 4) m' (x * 10 + (ch.toNat - 48)) ∧ m.length ≤ m'.length ∧ ∀ k, k < m.length → m'[k]? = m[k]? := by
  suffices key : ∃ F' nb, amkUT E self rrdec_9 m rrdec_9.toList 0 (lst F 46) [] [] = some (lst F' 46, nb) ∧ F' 0 = F 0 ∧ F' 5 = F 5 ∧ NumA (m ++ nb) (F' 4) (dig (x * 10 + (ch.toNat - 48))) ∧ NumIn (m ++ nb).length (F' 4) ∧ NumB m.length (F' 4) (m ++ nb) (x * 10 + (ch.toNat - 48)) by
    obtain ⟨F', nb, h1, h2, h3, h4, h5, h6⟩ := key
    exact ⟨F', m ++ nb, amk_of dep9 h1, h2, h3, h4, h5, h6, by simp, fun k hk => List.getElem?_append_left hk⟩
  -- the product
  have hk1 : ∀ k, k < m.length → (m ++ [Blk.row false 3 (cellsN [10])])[k]? = m[k]? := fun k hk => List.getElem?_append_left hk
  have nv := (hv.keep hk1).sealed
  have n10 : NumA ((m ++ [Blk.row false 3 (cellsN [10])]).map sealed) (.slice (some ⟨m.length, 0, none⟩) 1 1) (dig 10) := by
    rw [dig10]
    exact (NumA.row (ro := false) (n := 1) (L := [10]) (by simp) (by simp)).sealed
  obtain ⟨v2, M2, e2, r2⟩ := cm _ v _ x 10 nv n10 (by omega) (by rw [dig10]; simp)
  obtain ⟨b2, a2, s2, p2⟩ := num_at2 r2
  have l2 : ((m ++ [Blk.row false 3 (cellsN [10])]).map sealed).length = m.length + 1 := by simp
  rw [l2] at a2
  -- the digit
  obtain ⟨v8, M8, e8, r8⟩ := cs ((m ++ ([Blk.row false 3 (cellsN [10])] ++ b2)).map sealed) (ch.toNat - 48) (by omega)
  obtain ⟨b8, a8, s8, p8⟩ := num_at2 r8
  have l8 : ((m ++ ([Blk.row false 3 (cellsN [10])] ++ b2)).map sealed).length = m.length + ([Blk.row false 3 (cellsN [10])] ++ b2).length := by simp
  rw [l8] at a8
  -- the sum
  have n2 := (p2 (m ++ [Blk.row false 3 (cellsN [10])]) b8 (by simp)).1
  have n8 := (p8 (m ++ ([Blk.row false 3 (cellsN [10])] ++ b2)) [] (by simp)).1
  have i2 := (p2 (m ++ [Blk.row false 3 (cellsN [10])]) b8 (by simp)).2.1
  have i8 := (p8 (m ++ ([Blk.row false 3 (cellsN [10])] ++ b2)) [] (by simp)).2.1
  have hM : m ++ [Blk.row false 3 (cellsN [10])] ++ b2 ++ b8 = m ++ ([Blk.row false 3 (cellsN [10])] ++ b2 ++ b8) := by simp
  have hM' : m ++ ([Blk.row false 3 (cellsN [10])] ++ b2) ++ b8 ++ [] = m ++ ([Blk.row false 3 (cellsN [10])] ++ b2 ++ b8) := by simp
  rw [hM] at n2 i2
  rw [hM'] at n8 i8
  have hd8 : (dig (ch.toNat - 48)).length ≤ 1 := dig_len_le (by omega)
  have hd2 : (dig (x * 10)).length ≤ 391 := dig_times10 hl
  obtain ⟨v9, M9, e9, r9⟩ := ca _ v2 v8 (x * 10) (ch.toNat - 48) n2.sealed n8.sealed (by omega) (by omega)
  obtain ⟨b9, a9, s9, p9⟩ := num_at2 r9
  have l9 : ((m ++ ([Blk.row false 3 (cellsN [10])] ++ b2 ++ b8)).map sealed).length = m.length + ([Blk.row false 3 (cellsN [10])] ++ b2 ++ b8).length := by simp
  rw [l9] at a9
  have n9 := p9 (m ++ ([Blk.row false 3 (cellsN [10])] ++ b2 ++ b8)) [] (by simp)
  have rn2 : ∀ b ∈ [Blk.row false 3 (cellsN [10])], ∃ L, b = Blk.row false 3 (cellsN L) := by simp; exact ⟨[10], rfl⟩
  have rn8 := rows_app rn2 s2
  have rn9 := rows_app rn8 s8
  rw [erdec_9]
  simp only [lrdec_9, Tryd.f10]
  rw [u_float (v := v)]
  rotate_left 1
  · exact agd_none
  · kernel_rfl
  · kernel_rfl
  · simp only [List.append_eq, List.cons_append, List.nil_append, apure_call1, apure_call2, apure_call3, bft, btf, acodeN, List.getElem?_toArray, List.getElem?_cons_zero, List.getElem?_cons_succ, aopsN, adrawT, cls, astep, aop, afloat, ev, nth_lst, get_lst, aput, setAt_lst, upd_at, init_zero, init_succ, init_nil, Nat.reduceLT, Nat.reduceEqDiff, reduceIte, len_N, abuiltin_app, Option.map_some, Option.map_none, orElse_some, apure_add, apure_eqlV, eqlVal_str, eqlVal_bool, eqlVal_ptr, eqlVal_slice, eqlVal_wide, eqlVal_int, allT, ↓aop_eqlV, apure_neq, List.map_cons, List.map_nil, List.all_cons, List.all_nil, lit2, lit1, lit0, List.isEmpty_nil, bls, Bool.false_eq_true, if_true, if_false, List.length_map, beq_self_eq_true, uns, h4]
  simp only [aput, setAt_lst, Nat.reduceLT, if_true, Nat.reduceAdd, List.nil_append, List.length_cons, List.length_nil, List.replicate_succ, List.replicate_zero]
  rw [u_make (c := 1) (v := .slice (some ⟨m.length, 0, none⟩) 1 1) (m1 := (m.map sealed) ++ [.row false 3 [.int .i64 10]]) (v' := .slice (some ⟨m.length, 0, none⟩) 1 1) (bs := [Blk.row false 3 (cellsN [10])])]
  rotate_left 1
  · exact agd_none
  · kernel_rfl
  · kernel_rfl
  · rfl
  · rfl
  · simp only [maskN, List.zip_nil_left, List.map_nil, List.append_nil, List.append_eq, List.cons_append, List.nil_append, apure_call1, apure_call2, apure_call3, bft, btf, acodeN, List.getElem?_toArray, List.getElem?_cons_zero, List.getElem?_cons_succ, aopsN, adrawT, cls, astep, aop, afloat, ev, nth_lst, get_lst, aput, setAt_lst, upd_at, init_zero, init_succ, init_nil, Nat.reduceLT, Nat.reduceEqDiff, reduceIte, len_N, abuiltin_app, Option.map_some, Option.map_none, orElse_some, apure_add, apure_eqlV, eqlVal_str, eqlVal_bool, eqlVal_ptr, eqlVal_slice, eqlVal_wide, eqlVal_int, allT, ↓aop_eqlV, apure_neq, List.map_cons, List.map_nil, List.all_cons, List.all_nil, lit2, lit1, lit0, List.isEmpty_nil, bls, Bool.false_eq_true, if_true, if_false, List.length_map, beq_self_eq_true, uns, build27]
  · have := acollAt_row (M := m.map sealed) (ro := false) (e := 3) (cs := [.int .i64 10]) (k := 1) (c := 1) (N := m.length) (by simp) rfl
    rw [List.length_map] at this
    exact this
  · kernel_rfl
  simp only [aput, setAt_lst, Nat.reduceLT, if_true, Nat.reduceAdd, List.nil_append, List.length_cons, List.length_nil, List.replicate_succ, List.replicate_zero]
  have c2 : ∀ j ∈ [1], chainB rrdec_9 4 2 j = true := by simp; exact ch21
  have q2 := pw_all (n := m.length) c2
  have f2 : ∀ g, belowP (pW rrdec_9 2 m.length ([1])) 4 (.func (.func g) #[] #[]) = true := fun _ => rfl
  have b2x : belowP (pW rrdec_9 2 m.length ([1])) 4 v = true := hin.below (fun k hk => q2 k (by omega))
  have b2y : belowP (pW rrdec_9 2 m.length ([1])) 4 (.slice (some ⟨m.length, 0, none⟩) 1 1) = true := q2 m.length (by simp)
  rw [u_make (c := 1) (v := v2) (m1 := M2) (v' := v2) (bs := b2)]
  rotate_left 1
  · exact agd_none
  · kernel_rfl
  · kernel_rfl
  · simp only [opsP, Op.operands, Call.operands, List.toList_toArray, Array.toList_append, List.cons_append, List.nil_append, List.all_cons, List.all_nil, ev, nth_lst, upd_at, Nat.reduceEqDiff, reduceIte, Nat.reduceLT, if_true, Bool.and_self, f2, b2x, b2y]
  · rw [mask_all rfl c2]
    exact rows_num _ _ (by simp; exact ⟨[10], rfl⟩)
  · rw [mask_all rfl c2]
    simp only [List.append_eq, List.cons_append, List.nil_append, apure_call1, apure_call2, apure_call3, bft, btf, acodeN, List.getElem?_toArray, List.getElem?_cons_zero, List.getElem?_cons_succ, aopsN, adrawT, cls, astep, aop, afloat, ev, nth_lst, get_lst, aput, setAt_lst, upd_at, init_zero, init_succ, init_nil, Nat.reduceLT, Nat.reduceEqDiff, reduceIte, len_N, abuiltin_app, Option.map_some, Option.map_none, orElse_some, apure_add, apure_eqlV, eqlVal_str, eqlVal_bool, eqlVal_ptr, eqlVal_slice, eqlVal_wide, eqlVal_int, allT, ↓aop_eqlV, apure_neq, List.map_cons, List.map_nil, List.all_cons, List.all_nil, lit2, lit1, lit0, List.isEmpty_nil, bls, Bool.false_eq_true, if_true, if_false, List.length_map, beq_self_eq_true, uns, callMulR]
    exact e2
  · exact a2
  · rw [show isW E.P E.wr rrdec_9 2 = true from by kernel_rfl, Bool.or_true]
  simp only [aput, setAt_lst, Nat.reduceLT, if_true, Nat.reduceAdd, List.nil_append, List.length_cons, List.length_nil, List.replicate_succ, List.replicate_zero]
  rw [u_float (v := .string s)]
  rotate_left 1
  · exact agd_none
  · kernel_rfl
  · kernel_rfl
  · simp only [List.append_eq, List.cons_append, List.nil_append, apure_call1, apure_call2, apure_call3, bft, btf, acodeN, List.getElem?_toArray, List.getElem?_cons_zero, List.getElem?_cons_succ, aopsN, adrawT, cls, astep, aop, afloat, ev, nth_lst, get_lst, aput, setAt_lst, upd_at, init_zero, init_succ, init_nil, Nat.reduceLT, Nat.reduceEqDiff, reduceIte, len_N, abuiltin_app, Option.map_some, Option.map_none, orElse_some, apure_add, apure_eqlV, eqlVal_str, eqlVal_bool, eqlVal_ptr, eqlVal_slice, eqlVal_wide, eqlVal_int, allT, ↓aop_eqlV, apure_neq, List.map_cons, List.map_nil, List.all_cons, List.all_nil, lit2, lit1, lit0, List.isEmpty_nil, bls, Bool.false_eq_true, if_true, if_false, List.length_map, beq_self_eq_true, uns, h0]
  simp only [aput, setAt_lst, Nat.reduceLT, if_true, Nat.reduceAdd, List.nil_append, List.length_cons, List.length_nil, List.replicate_succ, List.replicate_zero]
  rw [u_float (v := .int .i64 (i : Nat))]
  rotate_left 1
  · exact agd_none
  · kernel_rfl
  · kernel_rfl
  · simp only [List.append_eq, List.cons_append, List.nil_append, apure_call1, apure_call2, apure_call3, bft, btf, acodeN, List.getElem?_toArray, List.getElem?_cons_zero, List.getElem?_cons_succ, aopsN, adrawT, cls, astep, aop, afloat, ev, nth_lst, get_lst, aput, setAt_lst, upd_at, init_zero, init_succ, init_nil, Nat.reduceLT, Nat.reduceEqDiff, reduceIte, len_N, abuiltin_app, Option.map_some, Option.map_none, orElse_some, apure_add, apure_eqlV, eqlVal_str, eqlVal_bool, eqlVal_ptr, eqlVal_slice, eqlVal_wide, eqlVal_int, allT, ↓aop_eqlV, apure_neq, List.map_cons, List.map_nil, List.all_cons, List.all_nil, lit2, lit1, lit0, List.isEmpty_nil, bls, Bool.false_eq_true, if_true, if_false, List.length_map, beq_self_eq_true, uns, h5]
  simp only [aput, setAt_lst, Nat.reduceLT, if_true, Nat.reduceAdd, List.nil_append, List.length_cons, List.length_nil, List.replicate_succ, List.replicate_zero]
  rw [u_float (v := .int .u8 ((ch.toNat : Nat) : Int))]
  rotate_left 1
  · exact agd_none
  · kernel_rfl
  · kernel_rfl
  · simp only [List.append_eq, List.cons_append, List.nil_append, apure_call1, apure_call2, apure_call3, bft, btf, acodeN, List.getElem?_toArray, List.getElem?_cons_zero, List.getElem?_cons_succ, aopsN, adrawT, cls, astep, aop, afloat, ev, nth_lst, get_lst, aput, setAt_lst, upd_at, init_zero, init_succ, init_nil, Nat.reduceLT, Nat.reduceEqDiff, reduceIte, len_N, abuiltin_app, Option.map_some, Option.map_none, orElse_some, apure_add, apure_eqlV, eqlVal_str, eqlVal_bool, eqlVal_ptr, eqlVal_slice, eqlVal_wide, eqlVal_int, allT, ↓aop_eqlV, apure_neq, List.map_cons, List.map_nil, List.all_cons, List.all_nil, lit2, lit1, lit0, List.isEmpty_nil, bls, Bool.false_eq_true, if_true, if_false, List.length_map, beq_self_eq_true, uns, index9 hx]
  simp only [aput, setAt_lst, Nat.reduceLT, if_true, Nat.reduceAdd, List.nil_append, List.length_cons, List.length_nil, List.replicate_succ, List.replicate_zero]
  rw [u_float (v := .int .u8 ((ch.toNat - 48 : Nat) : Int))]
  rotate_left 1
  · exact agd_none
  · kernel_rfl
  · kernel_rfl
  · simp only [List.append_eq, List.cons_append, List.nil_append, apure_call1, apure_call2, apure_call3, bft, btf, acodeN, List.getElem?_toArray, List.getElem?_cons_zero, List.getElem?_cons_succ, aopsN, adrawT, cls, astep, aop, afloat, ev, nth_lst, get_lst, aput, setAt_lst, upd_at, init_zero, init_succ, init_nil, Nat.reduceLT, Nat.reduceEqDiff, reduceIte, len_N, abuiltin_app, Option.map_some, Option.map_none, orElse_some, apure_add, apure_eqlV, eqlVal_str, eqlVal_bool, eqlVal_ptr, eqlVal_slice, eqlVal_wide, eqlVal_int, allT, ↓aop_eqlV, apure_neq, List.map_cons, List.map_nil, List.all_cons, List.all_nil, lit2, lit1, lit0, List.isEmpty_nil, bls, Bool.false_eq_true, if_true, if_false, List.length_map, beq_self_eq_true, uns, sub48 hc1, wr48 hc1 (show ch.toNat < 256 by omega)]
  simp only [aput, setAt_lst, Nat.reduceLT, if_true, Nat.reduceAdd, List.nil_append, List.length_cons, List.length_nil, List.replicate_succ, List.replicate_zero]
  rw [u_float (v := .int .u64 ((ch.toNat - 48 : Nat) : Int))]
  rotate_left 1
  · exact agd_none
  · kernel_rfl
  · kernel_rfl
  · simp only [List.append_eq, List.cons_append, List.nil_append, apure_call1, apure_call2, apure_call3, bft, btf, acodeN, List.getElem?_toArray, List.getElem?_cons_zero, List.getElem?_cons_succ, aopsN, adrawT, cls, astep, aop, afloat, ev, nth_lst, get_lst, aput, setAt_lst, upd_at, init_zero, init_succ, init_nil, Nat.reduceLT, Nat.reduceEqDiff, reduceIte, len_N, abuiltin_app, Option.map_some, Option.map_none, orElse_some, apure_add, apure_eqlV, eqlVal_str, eqlVal_bool, eqlVal_ptr, eqlVal_slice, eqlVal_wide, eqlVal_int, allT, ↓aop_eqlV, apure_neq, List.map_cons, List.map_nil, List.all_cons, List.all_nil, lit2, lit1, lit0, List.isEmpty_nil, bls, Bool.false_eq_true, if_true, if_false, List.length_map, beq_self_eq_true, uns, conv5u (show ch.toNat - 48 < 256 by omega)]
  simp only [aput, setAt_lst, Nat.reduceLT, if_true, Nat.reduceAdd, List.nil_append, List.length_cons, List.length_nil, List.replicate_succ, List.replicate_zero]
  have c8 : ∀ j ∈ [1] ++ List.replicate b2.length 2, chainB rrdec_9 4 8 j = true := by intro j hj; rcases List.mem_append.1 hj with h | h; (simp at h; subst h; exact ch81); (have := List.eq_of_mem_replicate h; subst this; exact ch82)
  have q8 := pw_all (n := m.length) c8
  have f8 : ∀ g, belowP (pW rrdec_9 8 m.length ([1] ++ List.replicate b2.length 2)) 4 (.func (.func g) #[] #[]) = true := fun _ => rfl
  have b8x : belowP (pW rrdec_9 8 m.length ([1] ++ List.replicate b2.length 2)) 4 (.int .u64 ((ch.toNat - 48 : Nat) : Int)) = true := rfl
  have g8 := f8
  simp only [List.cons_append, List.nil_append] at g8 b8x
  rw [u_make (c := 1) (v := v8) (m1 := M8) (v' := v8) (bs := b8)]
  rotate_left 1
  · exact agd_none
  · kernel_rfl
  · kernel_rfl
  · simp only [opsP, Op.operands, Call.operands, List.toList_toArray, Array.toList_append, List.cons_append, List.nil_append, List.all_cons, List.all_nil, ev, nth_lst, upd_at, Nat.reduceEqDiff, reduceIte, Nat.reduceLT, if_true, Bool.and_self, g8, b8x]
  · rw [mask_all (by simp) c8]
    exact rows_num _ _ (rn8)
  · rw [mask_all (by simp) c8]
    simp only [List.append_eq, List.cons_append, List.nil_append, apure_call1, apure_call2, apure_call3, bft, btf, acodeN, List.getElem?_toArray, List.getElem?_cons_zero, List.getElem?_cons_succ, aopsN, adrawT, cls, astep, aop, afloat, ev, nth_lst, get_lst, aput, setAt_lst, upd_at, init_zero, init_succ, init_nil, Nat.reduceLT, Nat.reduceEqDiff, reduceIte, len_N, abuiltin_app, Option.map_some, Option.map_none, orElse_some, apure_add, apure_eqlV, eqlVal_str, eqlVal_bool, eqlVal_ptr, eqlVal_slice, eqlVal_wide, eqlVal_int, allT, ↓aop_eqlV, apure_neq, List.map_cons, List.map_nil, List.all_cons, List.all_nil, lit2, lit1, lit0, List.isEmpty_nil, bls, Bool.false_eq_true, if_true, if_false, List.length_map, beq_self_eq_true, uns, callSml]
    exact e8
  · exact a8
  · rw [show isW E.P E.wr rrdec_9 8 = true from by kernel_rfl, Bool.or_true]
  simp only [aput, setAt_lst, Nat.reduceLT, if_true, Nat.reduceAdd, List.nil_append, List.length_cons, List.length_nil, List.replicate_succ, List.replicate_zero]
  have c9 : ∀ j ∈ [1] ++ List.replicate b2.length 2 ++ List.replicate b8.length 8, chainB rrdec_9 4 9 j = true := by intro j hj; rcases List.mem_append.1 hj with h | h; (rcases List.mem_append.1 h with h | h; (simp at h; subst h; exact ch91); (have := List.eq_of_mem_replicate h; subst this; exact ch92)); (have := List.eq_of_mem_replicate h; subst this; exact ch98)
  have q9 := pw_all (n := m.length) c9
  have f9 : ∀ g, belowP (pW rrdec_9 9 m.length ([1] ++ List.replicate b2.length 2 ++ List.replicate b8.length 8)) 4 (.func (.func g) #[] #[]) = true := fun _ => rfl
  have b9x : belowP (pW rrdec_9 9 m.length ([1] ++ List.replicate b2.length 2 ++ List.replicate b8.length 8)) 4 v2 = true := i2.below (fun k hk => q9 k (by simp at hk ⊢; omega))
  have b9y : belowP (pW rrdec_9 9 m.length ([1] ++ List.replicate b2.length 2 ++ List.replicate b8.length 8)) 4 v8 = true := i8.below (fun k hk => q9 k (by simp at hk ⊢; omega))
  have g9 := f9
  simp only [List.cons_append, List.nil_append] at g9 b9x b9y
  rw [u_make (c := 1) (v := v9) (m1 := M9) (v' := v9) (bs := b9)]
  rotate_left 1
  · exact agd_none
  · kernel_rfl
  · kernel_rfl
  · simp only [opsP, Op.operands, Call.operands, List.toList_toArray, Array.toList_append, List.cons_append, List.nil_append, List.all_cons, List.all_nil, ev, nth_lst, upd_at, Nat.reduceEqDiff, reduceIte, Nat.reduceLT, if_true, Bool.and_self, g9, b9x, b9y]
  · rw [mask_all (by simp) c9]
    exact rows_num _ _ (rn9)
  · rw [mask_all (by simp) c9]
    simp only [List.append_eq, List.cons_append, List.nil_append, apure_call1, apure_call2, apure_call3, bft, btf, acodeN, List.getElem?_toArray, List.getElem?_cons_zero, List.getElem?_cons_succ, aopsN, adrawT, cls, astep, aop, afloat, ev, nth_lst, get_lst, aput, setAt_lst, upd_at, init_zero, init_succ, init_nil, Nat.reduceLT, Nat.reduceEqDiff, reduceIte, len_N, abuiltin_app, Option.map_some, Option.map_none, orElse_some, apure_add, apure_eqlV, eqlVal_str, eqlVal_bool, eqlVal_ptr, eqlVal_slice, eqlVal_wide, eqlVal_int, allT, ↓aop_eqlV, apure_neq, List.map_cons, List.map_nil, List.all_cons, List.all_nil, lit2, lit1, lit0, List.isEmpty_nil, bls, Bool.false_eq_true, if_true, if_false, List.length_map, beq_self_eq_true, uns, callAddR]
    exact e9
  · exact a9
  · rw [show isW E.P E.wr rrdec_9 9 = true from by kernel_rfl, Bool.or_true]
  simp only [aput, setAt_lst, Nat.reduceLT, if_true, Nat.reduceAdd, List.nil_append, List.length_cons, List.length_nil, List.replicate_succ, List.replicate_zero]
  rw [u_float (v := v9)]
  rotate_left 1
  · exact agd_none
  · kernel_rfl
  · kernel_rfl
  · simp only [List.append_eq, List.cons_append, List.nil_append, apure_call1, apure_call2, apure_call3, bft, btf, acodeN, List.getElem?_toArray, List.getElem?_cons_zero, List.getElem?_cons_succ, aopsN, adrawT, cls, astep, aop, afloat, ev, nth_lst, get_lst, aput, setAt_lst, upd_at, init_zero, init_succ, init_nil, Nat.reduceLT, Nat.reduceEqDiff, reduceIte, len_N, abuiltin_app, Option.map_some, Option.map_none, orElse_some, apure_add, apure_eqlV, eqlVal_str, eqlVal_bool, eqlVal_ptr, eqlVal_slice, eqlVal_wide, eqlVal_int, allT, ↓aop_eqlV, apure_neq, List.map_cons, List.map_nil, List.all_cons, List.all_nil, lit2, lit1, lit0, List.isEmpty_nil, bls, Bool.false_eq_true, if_true, if_false, List.length_map, beq_self_eq_true, uns, id_eq]
  simp only [aput, setAt_lst, Nat.reduceLT, if_true, Nat.reduceAdd, List.nil_append, List.length_cons, List.length_nil, List.replicate_succ, List.replicate_zero]
  have hM9 : m ++ ([Blk.row false 3 (cellsN [10])] ++ b2 ++ b8) ++ b9 ++ [] = m ++ ([Blk.row false 3 (cellsN [10])] ++ b2 ++ b8 ++ b9) := by simp
  rw [hM9] at n9
  rw [u_end]
  exact ⟨_, _, rfl, by simp only [upd_at, Nat.reduceEqDiff, reduceIte], by simp only [upd_at, Nat.reduceEqDiff, reduceIte], by simp only [upd_at, Nat.reduceEqDiff, reduceIte]; exact n9.1, by simp only [upd_at, Nat.reduceEqDiff, reduceIte]; exact n9.2.1, by simp only [upd_at, Nat.reduceEqDiff, reduceIte]; exact n9.2.2.mono (by simp)⟩
end Go.Am.Seat
namespace Go.Am.Seat
open Go.Proofs Go.Am
theorem lssU8 (a b : Int) : abin .lss .u8 a .u8 b = some (.bool (decide (a < b))) := by kernel_rfl
theorem gtrU8 (a b : Int) : abin .gtr .u8 a .u8 b = some (.bool (decide (a > b))) := by kernel_rfl
theorem eqlU8 (a b : Int) : abin .eql .u8 a .u8 b = some (.bool (a == b)) := by kernel_rfl
theorem sr9 : E.sr 9 rrdec_9 = true := by kernel_rfl
theorem mk9 : E.mkr 9 rrdec_9 = true := by kernel_rfl
theorem len_S {T : List Value} {m : Mem} {o : Oper} {j : Nat} : abuiltin E.P T m o .len [.tmp j] [9] = match alen E.P 9 (nth T j) with
    | some v => some (v, m)
    | none => (apure E.P T o).map (·, m) := rfl
section
variable {self : Self} {nf : Nat} {m : Mem} {F : Nat → Value} {v : Value} {s : ByteArray} {i x : Nat} {ch : UInt8}
theorem rdec_iter (cm : CMul self) (cs : CSmall self) (ca : CAdd self) (h4 : F 4 = v) (h0 : F 0 = .string s) (h5 : F 5 = .int .i64 (i : Nat)) (hx : s.data.toList[i]? = some ch) (hc1 : 48 ≤ ch.toNat) (hc2 : ch.toNat ≤ 57) (hs : s.data.toList.length ≤ 100000)
    (hv : NumA m v (dig x)) (hin : NumIn m.length v) (hl : (dig x).length ≤ 390) :
    ∃ F' m', acodeN E self nf lprdec_0 (lst F 46) m = some (.normal, lst F' 46, m') ∧ F' 0 = F 0 ∧ F' 5 = .int .i64 ((i + 1 : Nat) : Int) ∧ NumA m' (F' 4) (dig (x * 10 + (ch.toNat - 48))) ∧ NumIn m'.length (F' 4) ∧ NumB m.length (F' 4) m' (x * 10 + (ch.toNat - 48)) ∧ m.length ≤ m'.length ∧ ∀ k, k < m.length → m'[k]? = m[k]? := by
  have hil := (List.getElem?_eq_some_iff.1 hx).1
  have q0 : decide (((i : Nat) : Int) < ((s.data.toList.length : Nat) : Int)) = true := decide_eq_true (by omega)
  have q1 : decide (((ch.toNat : Nat) : Int) < 48) = false := decide_eq_false (by omega)
  have q2 : decide (((ch.toNat : Nat) : Int) > 57) = false := decide_eq_false (by omega)
  have e1 := w1 (i := i) (by omega)
  have hi9 := index9 hx
  obtain ⟨F', m', hr, f0, f5, fn, fi, fB, fle, ffr⟩ := dec9 (self := self) (m := m) (F := upd (upd (upd (upd (upd (upd (upd (upd (upd (upd (upd (upd (upd (upd (F) 19 (.int .i64 (i : Nat))) 20 (.string s)) 21 (.int .i64 ((s.data.toList.length : Nat) : Int))) 22 (.bool true)) 25 (.string s)) 26 (.int .i64 (i : Nat))) 27 (.int .u8 ((ch.toNat : Nat) : Int))) 28 (.bool false)) 29 (.bool false)) 30 (.string s)) 31 (.int .i64 (i : Nat))) 32 (.int .u8 ((ch.toNat : Nat) : Int))) 33 (.bool false)) 34 (.bool false)) (v := v) (s := s) (i := i) cm cs ca (by simp only [upd_at, Nat.reduceEqDiff, reduceIte, h4]) (by simp only [upd_at, Nat.reduceEqDiff, reduceIte, h0]) (by simp only [upd_at, Nat.reduceEqDiff, reduceIte, h5]) hx hc1 hc2 hv hin hl
  simp only [upd_at, Nat.reduceEqDiff, reduceIte] at f0 f5
  rw [h5] at f5
  simp only [lprdec_0_eq, erdec_0, erdec_1, erdec_10, erdec_2, erdec_3, erdec_4, erdec_5, erdec_6, erdec_7, erdec_8, erdec_9, lrdec_0, lrdec_1, lrdec_2, lrdec_3, lrdec_4, lrdec_5, lrdec_6, lrdec_7, lrdec_8, lrdec_9, lrdec_10, grdec_1_3, grdec_1_7, grdec_7_4, agd_none, gdAt, gdV_bool, gdV_undef, Tryd.f10, List.append_eq, List.cons_append, List.nil_append, apure_call1, apure_call2, apure_call3, bft, btf, acodeN, List.getElem?_toArray, List.getElem?_cons_zero, List.getElem?_cons_succ, aopsN, adrawT, cls, astep, aop, afloat, ev, nth_lst, get_lst, aput, setAt_lst, upd_at, init_zero, init_succ, init_nil, Nat.reduceLT, Nat.reduceEqDiff, reduceIte, len_N, abuiltin_app, Option.map_some, Option.map_none, orElse_some, apure_add, apure_eqlV, eqlVal_str, eqlVal_bool, eqlVal_ptr, eqlVal_slice, eqlVal_wide, eqlVal_int, allT, ↓aop_eqlV, apure_neq, List.map_cons, List.map_nil, List.all_cons, List.all_nil, lit2, lit1, lit0, List.isEmpty_nil, bls, Bool.false_eq_true, if_true, if_false, List.length_map, beq_self_eq_true, uns, len_S, alen, h0, h5, lss64, q0, hi9, lssU8, q1, gtrU8, q2, sr9, mk9, hr, f5, add64', e1]
  exact ⟨_, m', rfl, by simp only [upd_at, Nat.reduceEqDiff, reduceIte, f0, h0], by simp only [upd_at, Nat.reduceEqDiff, reduceIte], by simp only [upd_at, Nat.reduceEqDiff, reduceIte]; exact fn, by simp only [upd_at, Nat.reduceEqDiff, reduceIte]; exact fi, by simp only [upd_at, Nat.reduceEqDiff, reduceIte]; exact fB, fle, ffr⟩
theorem rdec_bad (h0 : F 0 = .string s) (h5 : F 5 = .int .i64 (i : Nat)) (hx : s.data.toList[i]? = some ch) (hc : ch.toNat < 48 ∨ 57 < ch.toNat) :
    ∃ F', acodeN E self nf lprdec_0 (lst F 46) m = some (.ret, lst F' 46, m) ∧ F' 2 = .slice none 0 0 ∧ F' 3 = .bool false := by
  have hil := (List.getElem?_eq_some_iff.1 hx).1
  have q0 : decide (((i : Nat) : Int) < ((s.data.toList.length : Nat) : Int)) = true := decide_eq_true (by omega)
  have hi9 := index9 hx
  by_cases h1 : ch.toNat < 48
  · have q1 : decide (((ch.toNat : Nat) : Int) < 48) = true := decide_eq_true (by omega)
    simp only [lprdec_0_eq, erdec_0, erdec_1, erdec_10, erdec_2, erdec_3, erdec_4, erdec_5, erdec_6, erdec_7, erdec_8, erdec_9, lrdec_0, lrdec_1, lrdec_2, lrdec_3, lrdec_4, lrdec_5, lrdec_6, lrdec_7, lrdec_8, lrdec_9, lrdec_10, grdec_1_3, grdec_1_7, grdec_7_4, agd_none, gdAt, gdV_bool, gdV_undef, Tryd.f10, List.append_eq, List.cons_append, List.nil_append, apure_call1, apure_call2, apure_call3, bft, btf, acodeN, List.getElem?_toArray, List.getElem?_cons_zero, List.getElem?_cons_succ, aopsN, adrawT, cls, astep, aop, afloat, ev, nth_lst, get_lst, aput, setAt_lst, upd_at, init_zero, init_succ, init_nil, Nat.reduceLT, Nat.reduceEqDiff, reduceIte, len_N, abuiltin_app, Option.map_some, Option.map_none, orElse_some, apure_add, apure_eqlV, eqlVal_str, eqlVal_bool, eqlVal_ptr, eqlVal_slice, eqlVal_wide, eqlVal_int, allT, ↓aop_eqlV, apure_neq, List.map_cons, List.map_nil, List.all_cons, List.all_nil, lit2, lit1, lit0, List.isEmpty_nil, bls, Bool.false_eq_true, if_true, if_false, List.length_map, beq_self_eq_true, uns, len_S, alen, h0, h5, lss64, q0, hi9, lssU8, q1]
    exact ⟨_, rfl, by simp only [upd_at, Nat.reduceEqDiff, reduceIte], by simp only [upd_at, Nat.reduceEqDiff, reduceIte]⟩
  · have q1 : decide (((ch.toNat : Nat) : Int) < 48) = false := decide_eq_false (by omega)
    have q2 : decide (((ch.toNat : Nat) : Int) > 57) = true := decide_eq_true (by omega)
    simp only [lprdec_0_eq, erdec_0, erdec_1, erdec_10, erdec_2, erdec_3, erdec_4, erdec_5, erdec_6, erdec_7, erdec_8, erdec_9, lrdec_0, lrdec_1, lrdec_2, lrdec_3, lrdec_4, lrdec_5, lrdec_6, lrdec_7, lrdec_8, lrdec_9, lrdec_10, grdec_1_3, grdec_1_7, grdec_7_4, agd_none, gdAt, gdV_bool, gdV_undef, Tryd.f10, List.append_eq, List.cons_append, List.nil_append, apure_call1, apure_call2, apure_call3, bft, btf, acodeN, List.getElem?_toArray, List.getElem?_cons_zero, List.getElem?_cons_succ, aopsN, adrawT, cls, astep, aop, afloat, ev, nth_lst, get_lst, aput, setAt_lst, upd_at, init_zero, init_succ, init_nil, Nat.reduceLT, Nat.reduceEqDiff, reduceIte, len_N, abuiltin_app, Option.map_some, Option.map_none, orElse_some, apure_add, apure_eqlV, eqlVal_str, eqlVal_bool, eqlVal_ptr, eqlVal_slice, eqlVal_wide, eqlVal_int, allT, ↓aop_eqlV, apure_neq, List.map_cons, List.map_nil, List.all_cons, List.all_nil, lit2, lit1, lit0, List.isEmpty_nil, bls, Bool.false_eq_true, if_true, if_false, List.length_map, beq_self_eq_true, uns, len_S, alen, h0, h5, lss64, q0, hi9, lssU8, q1, gtrU8, q2]
    exact ⟨_, rfl, by simp only [upd_at, Nat.reduceEqDiff, reduceIte], by simp only [upd_at, Nat.reduceEqDiff, reduceIte]⟩
theorem rdec_last (h0 : F 0 = .string s) (h5 : F 5 = .int .i64 (i : Nat)) (hi : s.data.toList.length ≤ i) :
    ∃ F', acodeN E self nf lprdec_0 (lst F 46) m = some (.exit 0, lst F' 46, m) ∧ F' 4 = F 4 := by
  have q0 : decide (((i : Nat) : Int) < ((s.data.toList.length : Nat) : Int)) = false := decide_eq_false (by omega)
  simp only [lprdec_0_eq, erdec_0, erdec_1, erdec_10, erdec_2, erdec_3, erdec_4, erdec_5, erdec_6, erdec_7, erdec_8, erdec_9, lrdec_0, lrdec_1, lrdec_2, lrdec_3, lrdec_4, lrdec_5, lrdec_6, lrdec_7, lrdec_8, lrdec_9, lrdec_10, grdec_1_3, grdec_1_7, grdec_7_4, agd_none, gdAt, gdV_bool, gdV_undef, Tryd.f10, List.append_eq, List.cons_append, List.nil_append, apure_call1, apure_call2, apure_call3, bft, btf, acodeN, List.getElem?_toArray, List.getElem?_cons_zero, List.getElem?_cons_succ, aopsN, adrawT, cls, astep, aop, afloat, ev, nth_lst, get_lst, aput, setAt_lst, upd_at, init_zero, init_succ, init_nil, Nat.reduceLT, Nat.reduceEqDiff, reduceIte, len_N, abuiltin_app, Option.map_some, Option.map_none, orElse_some, apure_add, apure_eqlV, eqlVal_str, eqlVal_bool, eqlVal_ptr, eqlVal_slice, eqlVal_wide, eqlVal_int, allT, ↓aop_eqlV, apure_neq, List.map_cons, List.map_nil, List.all_cons, List.all_nil, lit2, lit1, lit0, List.isEmpty_nil, bls, Bool.false_eq_true, if_true, if_false, List.length_map, beq_self_eq_true, uns, len_S, alen, h0, h5, lss64, q0]
  exact ⟨_, rfl, by simp only [upd_at, Nat.reduceEqDiff, reduceIte]⟩
end
end Go.Am.Seat
namespace Go.Am.Seat
open Go.Proofs Go.Am
theorem acoll_truth {m m1 : Mem} {n b k c : Nat} {ro t : Bool} {e : TypeId} {cs : List Value} (hb : n ≤ b) (hm : m1[b]? = some (.row ro e cs)) (hc : cs.all lit0 = true) :
    acoll m n (.tuple ⟨[.slice (some ⟨b, 0, none⟩) k c, .bool t]⟩) m1 = some (.tuple ⟨[.slice (some ⟨m.length, 0, none⟩) k c, .bool t]⟩, m ++ [.row ro e cs]) := by
  have hnb : ¬ b < n := by omega
  unfold acoll
  rw [if_neg (by simp [lit2, lit1, lit0])]
  have h1 : idsL n (partsOf (.tuple ⟨[.slice (some ⟨b, 0, none⟩) k c, .bool t]⟩)) [] = [b] := by
    show idsL n [.bool t] (addIds (idOf n (.slice (some ⟨b, 0, none⟩) k c)) []) = [b]
    have e2 : addIds (idOf n (.slice (some ⟨b, 0, none⟩) k c)) [] = [b] := by simp [idOf, hnb, addIds]
    rw [e2]
    rfl
  have h2 : closeIds n m1 2 [b] = [b] := by
    simp only [closeIds, List.foldl_cons, List.foldl_nil, hm, idsL_lit cs [b] hc]
  simp only [h1, h2]
  rw [if_pos (by simp [nodupB, hb])]
  have h3 : rid n m.length [b] b = some m.length := by
    unfold rid
    rw [if_neg hnb]
    simp [List.idxOf?]
  have h4 : ren2 n m.length [b] (.bool t) = some (.bool t) := rfl
  have h5 : ren2 n m.length [b] (.slice (some ⟨b, 0, none⟩) k c) = some (.slice (some ⟨m.length, 0, none⟩) k c) := by simp only [ren2, ren1, h3]
  simp only [renB, hm, renL_id cs hc, ren3, renT, h4, h5]
theorem NumB.coll2 {m m1 : Mem} {B : Nat} {v : Value} {r : Nat} {t : Bool} (h : NumB B v m1 r) : ∃ v' m', acoll m B (.tuple ⟨[v, .bool t]⟩) m1 = some (.tuple ⟨[v', .bool t]⟩, m') ∧ NumR m v' m' r := by
  rcases h with ⟨rfl, rfl⟩ | ⟨L, n, b, ro, h1, h2, h3, rfl, h4, hne⟩
  · exact ⟨_, m, by unfold acoll; exact if_pos rfl, .inl ⟨rfl, rfl, rfl⟩⟩
  · exact ⟨_, _, acoll_truth h3 h4 (cellsN_lits L), .inr ⟨L, n, h1, h2, rfl, rfl, hne⟩⟩
def decV (l : List Nat) : Nat := l.foldl (fun a c => a * 10 + (c - 48)) 0
theorem decV_step {l : List Nat} {i c : Nat} (h : l[i]? = some c) : decV (l.take (i + 1)) = decV (l.take i) * 10 + (c - 48) := by
  unfold decV
  rw [List.take_add_one, h]
  simp
def digitsOk (l : List Nat) : Bool := l.all fun c => decide (48 ≤ c ∧ c ≤ 57)
def decOk (l : List Nat) : Bool := decide (l.length ≠ 0) && (!(decide (1 < l.length) && decide (l.head? = some 48)) && digitsOk l)
theorem rdec_loop {self : Self} {nf : Nat} {m : Mem} {s : ByteArray} (cm : CMul self) (cs : CSmall self) (ca : CAdd self) (hs : s.data.toList.length ≤ 390) (hnf : 1000 < nf) {F : Nat → Value} (h0 : F 0 = .string s) (h4 : F 4 = .slice none 0 0) (h5 : F 5 = .int .i64 (0 : Nat)) :
    ∃ e F' m', aloop (acodeN E self nf lprdec_0) nf (lst F 46) m = some (e, lst F' 46, m') ∧ ((e = .exit 0 ∧ digitsOk (natsOf s) = true ∧ NumB m.length (F' 4) m' (decV (natsOf s))) ∨ (e = .ret ∧ digitsOk (natsOf s) = false ∧ F' 2 = .slice none 0 0 ∧ F' 3 = .bool false)) := by
  have hnl := natsOf_len s
  have hloop := aloop_inv (body := acodeN E self nf lprdec_0) (N := s.data.toList.length)
    (I := fun i T m' => ∃ G, T = lst G 46 ∧ G 0 = .string s ∧ G 5 = .int .i64 (i : Nat) ∧ NumA m' (G 4) (dig (decV ((natsOf s).take i))) ∧ NumIn m'.length (G 4) ∧ NumB m.length (G 4) m' (decV ((natsOf s).take i)) ∧ m.length ≤ m'.length ∧ decV ((natsOf s).take i) < 256 ^ i ∧ ∀ (j c : Nat), j < i → (natsOf s)[j]? = some c → 48 ≤ c ∧ c ≤ 57)
    (Q := fun e T m' => ∃ F', T = lst F' 46 ∧ ((e = .exit 0 ∧ digitsOk (natsOf s) = true ∧ NumB m.length (F' 4) m' (decV (natsOf s))) ∨ (e = .ret ∧ digitsOk (natsOf s) = false ∧ F' 2 = .slice none 0 0 ∧ F' 3 = .bool false))) (fun i T m' hi hI => by
      obtain ⟨G, rfl, g0, g5, gn, gi, gB, gle, glt, gall⟩ := hI
      by_cases hlt : i < s.data.toList.length
      · have hx : s.data.toList[i]? = some s.data.toList[i] := by simp [hlt]
        have hn : (natsOf s)[i]? = some s.data.toList[i].toNat := by unfold natsOf; rw [List.getElem?_map, hx]; rfl
        generalize s.data.toList[i] = ch at hx hn
        by_cases hc : 48 ≤ ch.toNat ∧ ch.toNat ≤ 57
        · left
          have hlen := dig_len_le glt
          obtain ⟨F', m2, hr, f0, f5, fn, fi, fB, fle, ffr⟩ := rdec_iter (self := self) (nf := nf) cm cs ca rfl g0 g5 hx hc.1 hc.2 (by omega) gn gi (by omega)
          have hst := decV_step hn
          refine ⟨_, _, hr, hlt, F', rfl, f0.trans g0, f5, by rw [hst]; exact fn, fi, by rw [hst]; exact fB.mono gle, by omega, ?_, fun j c hj h1 => ?_⟩
          · rw [hst, Nat.pow_succ]
            omega
          · by_cases hji : j < i
            · exact gall j c hji h1
            · have : j = i := by omega
              subst this
              rw [hn] at h1; cases h1
              exact hc
        · right
          obtain ⟨F', hr, f2, f3⟩ := rdec_bad (self := self) (nf := nf) (m := m') g0 g5 hx (by omega)
          refine ⟨_, _, _, hr, by simp, F', rfl, .inr ⟨rfl, ?_, f2, f3⟩⟩
          unfold digitsOk
          rw [List.all_eq_false]
          exact ⟨ch.toNat, List.mem_of_getElem? hn, by simpa using hc⟩
      · right
        obtain ⟨F', hr, f4⟩ := rdec_last (self := self) (nf := nf) (m := m') g0 g5 (by omega)
        rw [List.take_of_length_le (by omega)] at gB
        refine ⟨_, _, _, hr, by simp, F', rfl, .inl ⟨rfl, ?_, by rw [f4]; exact gB⟩⟩
        unfold digitsOk
        rw [List.all_eq_true]
        intro c hc
        obtain ⟨j, hj⟩ := List.getElem?_of_mem hc
        exact decide_eq_true (gall j c (by have := (List.getElem?_eq_some_iff.1 hj).1; omega) hj))
  obtain ⟨e, T', m', hr, F', rfl, hq⟩ := hloop s.data.toList.length 0 nf (lst F 46) m (by omega) (by omega) ⟨F, rfl, h0, h5, by rw [h4]; show NumA m _ (dig 0); rw [dig_zero]; exact NumA.nil _, .inl h4, .inl ⟨h4, rfl⟩, Nat.le_refl _, by simp [decV], fun j c hj => by omega⟩
  exact ⟨e, F', m', hr, hq⟩
end Go.Am.Seat
namespace Go.Am.Seat
open Go.Proofs Go.Am
theorem head_at (l : List Nat) : l.head? = l[0]? := by cases l <;> rfl
theorem rdec_body {self : Self} {nf : Nat} {m : Mem} {s : ByteArray} (cm : CMul self) (cs : CSmall self) (ca : CAdd self) (hs : s.data.toList.length ≤ 390) (hnf : 1000 < nf) :
    ∃ v m1, abody E self nf 10 [.string s] m = some (.tuple ⟨[v, .bool (decOk (natsOf s))]⟩, m1) ∧ ((decOk (natsOf s) = false ∧ v = .slice none 0 0) ∨ (decOk (natsOf s) = true ∧ NumB m.length v m1 (decV (natsOf s)))) := by
  rw [abody_eqF (by kernel_rfl) Tryd.func10 bodyrdec (by kernel_rfl) (Nat.le_of_ble_eq_true rfl)]
  rw [show Tryd.f10.ntmps = 46 from rfl]
  have hnl := natsOf_len s
  by_cases l0 : s.data.toList.length = 0
  · have q0 : (((s.data.toList.length : Nat) : Int) == 0) = true := by rw [l0]; rfl
    have hd : decOk (natsOf s) = false := by
      have d0 : decide ((natsOf s).length ≠ 0) = false := decide_eq_false (by omega)
      unfold decOk
      rw [d0]
      rfl
    refine ⟨.slice none 0 0, m, ?_, .inl ⟨hd, rfl⟩⟩
    rw [hd]
    simp only [erdec_0, erdec_1, erdec_10, erdec_2, erdec_3, erdec_4, erdec_5, erdec_6, erdec_7, erdec_8, erdec_9, lrdec_0, lrdec_1, lrdec_2, lrdec_3, lrdec_4, lrdec_5, lrdec_6, lrdec_7, lrdec_8, lrdec_9, lrdec_10, grdec_1_3, grdec_1_7, grdec_7_4, agd_none, gdAt, gdV_bool, gdV_undef, Tryd.f10, List.append_eq, List.cons_append, List.nil_append, apure_call1, apure_call2, apure_call3, bft, btf, acodeN, List.getElem?_toArray, List.getElem?_cons_zero, List.getElem?_cons_succ, aopsN, adrawT, cls, astep, aop, afloat, ev, nth_lst, get_lst, aput, setAt_lst, upd_at, init_zero, init_succ, init_nil, Nat.reduceLT, Nat.reduceEqDiff, reduceIte, len_N, abuiltin_app, Option.map_some, Option.map_none, orElse_some, apure_add, apure_eqlV, eqlVal_str, eqlVal_bool, eqlVal_ptr, eqlVal_slice, eqlVal_wide, eqlVal_int, allT, ↓aop_eqlV, apure_neq, List.map_cons, List.map_nil, List.all_cons, List.all_nil, lit2, lit1, lit0, List.isEmpty_nil, bls, Bool.false_eq_true, if_true, if_false, List.length_map, beq_self_eq_true, uns, len_S, alen, eql64, q0, finish, ares, aresL, ares1]
  · have q0 : (((s.data.toList.length : Nat) : Int) == 0) = false := by
      have : ((s.data.toList.length : Nat) : Int) ≠ 0 := by omega
      simpa using this
    by_cases l1 : 1 < s.data.toList.length
    · have q1 : decide (((s.data.toList.length : Nat) : Int) > 1) = true := decide_eq_true (by omega)
      have hx : s.data.toList[0]? = some (s.data.toList[0]'(by omega)) := by simp [show 0 < s.data.toList.length by omega]
      have hn : (natsOf s)[0]? = some (s.data.toList[0]'(by omega)).toNat := by unfold natsOf; rw [List.getElem?_map, hx]; rfl
      generalize s.data.toList[0]'(by omega) = ch at hx hn
      have hi9 := index9 hx
      rw [show (((0 : Nat) : Int)) = 0 from rfl] at hi9
      by_cases hc : ch.toNat = 48
      · have q2 : (((ch.toNat : Nat) : Int) == 48) = true := by rw [hc]; rfl
        have hd : decOk (natsOf s) = false := by
          have d1 : decide (1 < (natsOf s).length) = true := decide_eq_true (by omega)
          unfold decOk
          rw [d1, head_at, hn, hc]
          simp
        refine ⟨.slice none 0 0, m, ?_, .inl ⟨hd, rfl⟩⟩
        rw [hd]
        simp only [erdec_0, erdec_1, erdec_10, erdec_2, erdec_3, erdec_4, erdec_5, erdec_6, erdec_7, erdec_8, erdec_9, lrdec_0, lrdec_1, lrdec_2, lrdec_3, lrdec_4, lrdec_5, lrdec_6, lrdec_7, lrdec_8, lrdec_9, lrdec_10, grdec_1_3, grdec_1_7, grdec_7_4, agd_none, gdAt, gdV_bool, gdV_undef, Tryd.f10, List.append_eq, List.cons_append, List.nil_append, apure_call1, apure_call2, apure_call3, bft, btf, acodeN, List.getElem?_toArray, List.getElem?_cons_zero, List.getElem?_cons_succ, aopsN, adrawT, cls, astep, aop, afloat, ev, nth_lst, get_lst, aput, setAt_lst, upd_at, init_zero, init_succ, init_nil, Nat.reduceLT, Nat.reduceEqDiff, reduceIte, len_N, abuiltin_app, Option.map_some, Option.map_none, orElse_some, apure_add, apure_eqlV, eqlVal_str, eqlVal_bool, eqlVal_ptr, eqlVal_slice, eqlVal_wide, eqlVal_int, allT, ↓aop_eqlV, apure_neq, List.map_cons, List.map_nil, List.all_cons, List.all_nil, lit2, lit1, lit0, List.isEmpty_nil, bls, Bool.false_eq_true, if_true, if_false, List.length_map, beq_self_eq_true, uns, len_S, alen, eql64, q0, gtr64', q1, hi9, eqlU8, q2, finish, ares, aresL, ares1]
      · have q2 : (((ch.toNat : Nat) : Int) == 48) = false := by
          have : ((ch.toNat : Nat) : Int) ≠ 48 := by omega
          simpa using this
        have hd : decOk (natsOf s) = digitsOk (natsOf s) := by
          have d0 : decide ((natsOf s).length ≠ 0) = true := decide_eq_true (by omega)
          have d2 : decide ((some ch.toNat) = some 48) = false := decide_eq_false (by simpa using hc)
          unfold decOk
          rw [d0, head_at, hn, d2]
          simp
        obtain ⟨e, F', m', hr, hq⟩ := rdec_loop (self := self) (nf := nf) (m := m) (s := s) cm cs ca hs hnf (F := upd (upd (upd (upd (upd (upd (upd (upd (upd (upd (upd (upd (upd (upd (upd (upd (upd (init [.string s]) 2 (.slice none 0 0)) 3 (.bool false)) 6 (.string s)) 7 (.int .i64 ((s.data.toList.length : Nat) : Int))) 8 (.bool false)) 9 (.bool false)) 10 (.string s)) 11 (.int .i64 ((s.data.toList.length : Nat) : Int))) 12 (.bool true)) 13 (.bool true)) 14 (.string s)) 15 (.int .u8 ((ch.toNat : Nat) : Int))) 16 (.bool false)) 17 (.bool false)) 18 (.bool false)) 4 (.slice none 0 0)) 5 (.int .i64 0)) rfl rfl rfl
        rcases hq with ⟨rfl, h1, h2⟩ | ⟨rfl, h1, f2, f3⟩
        · refine ⟨F' 4, m', ?_, .inr ⟨by rw [hd, h1], h2⟩⟩
          rw [hd, h1]
          simp only [erdec_0, erdec_1, erdec_10, erdec_2, erdec_3, erdec_4, erdec_5, erdec_6, erdec_7, erdec_8, erdec_9, lrdec_0, lrdec_1, lrdec_2, lrdec_3, lrdec_4, lrdec_5, lrdec_6, lrdec_7, lrdec_8, lrdec_9, lrdec_10, grdec_1_3, grdec_1_7, grdec_7_4, agd_none, gdAt, gdV_bool, gdV_undef, Tryd.f10, List.append_eq, List.cons_append, List.nil_append, apure_call1, apure_call2, apure_call3, bft, btf, acodeN, List.getElem?_toArray, List.getElem?_cons_zero, List.getElem?_cons_succ, aopsN, adrawT, cls, astep, aop, afloat, ev, nth_lst, get_lst, aput, setAt_lst, upd_at, init_zero, init_succ, init_nil, Nat.reduceLT, Nat.reduceEqDiff, reduceIte, len_N, abuiltin_app, Option.map_some, Option.map_none, orElse_some, apure_add, apure_eqlV, eqlVal_str, eqlVal_bool, eqlVal_ptr, eqlVal_slice, eqlVal_wide, eqlVal_int, allT, ↓aop_eqlV, apure_neq, List.map_cons, List.map_nil, List.all_cons, List.all_nil, lit2, lit1, lit0, List.isEmpty_nil, bls, Bool.false_eq_true, if_true, if_false, List.length_map, beq_self_eq_true, uns, len_S, alen, eql64, q0, gtr64', q1, hi9, eqlU8, q2, hr, finish, ares, aresL, ares1]
        · refine ⟨.slice none 0 0, m', ?_, .inl ⟨by rw [hd, h1], rfl⟩⟩
          rw [hd, h1]
          simp only [erdec_0, erdec_1, erdec_10, erdec_2, erdec_3, erdec_4, erdec_5, erdec_6, erdec_7, erdec_8, erdec_9, lrdec_0, lrdec_1, lrdec_2, lrdec_3, lrdec_4, lrdec_5, lrdec_6, lrdec_7, lrdec_8, lrdec_9, lrdec_10, grdec_1_3, grdec_1_7, grdec_7_4, agd_none, gdAt, gdV_bool, gdV_undef, Tryd.f10, List.append_eq, List.cons_append, List.nil_append, apure_call1, apure_call2, apure_call3, bft, btf, acodeN, List.getElem?_toArray, List.getElem?_cons_zero, List.getElem?_cons_succ, aopsN, adrawT, cls, astep, aop, afloat, ev, nth_lst, get_lst, aput, setAt_lst, upd_at, init_zero, init_succ, init_nil, Nat.reduceLT, Nat.reduceEqDiff, reduceIte, len_N, abuiltin_app, Option.map_some, Option.map_none, orElse_some, apure_add, apure_eqlV, eqlVal_str, eqlVal_bool, eqlVal_ptr, eqlVal_slice, eqlVal_wide, eqlVal_int, allT, ↓aop_eqlV, apure_neq, List.map_cons, List.map_nil, List.all_cons, List.all_nil, lit2, lit1, lit0, List.isEmpty_nil, bls, Bool.false_eq_true, if_true, if_false, List.length_map, beq_self_eq_true, uns, len_S, alen, eql64, q0, gtr64', q1, hi9, eqlU8, q2, hr, f2, f3, finish, ares, aresL, ares1]
    · have q1 : decide (((s.data.toList.length : Nat) : Int) > 1) = false := decide_eq_false (by omega)
      have hd : decOk (natsOf s) = digitsOk (natsOf s) := by
        have d0 : decide ((natsOf s).length ≠ 0) = true := decide_eq_true (by omega)
        have d1 : decide (1 < (natsOf s).length) = false := decide_eq_false (by omega)
        unfold decOk
        rw [d0, d1]
        simp
      obtain ⟨e, F', m', hr, hq⟩ := rdec_loop (self := self) (nf := nf) (m := m) (s := s) cm cs ca hs hnf (F := upd (upd (upd (upd (upd (upd (upd (upd (upd (upd (upd (upd (upd (upd (upd (upd (upd (init [.string s]) 2 (.slice none 0 0)) 3 (.bool false)) 6 (.string s)) 7 (.int .i64 ((s.data.toList.length : Nat) : Int))) 8 (.bool false)) 9 (.bool false)) 10 (.string s)) 11 (.int .i64 ((s.data.toList.length : Nat) : Int))) 12 (.bool false)) 13 (.bool false)) 14 (undef)) 15 (undef)) 16 (undef)) 17 (.bool false)) 18 (.bool false)) 4 (.slice none 0 0)) 5 (.int .i64 0)) rfl rfl rfl
      rcases hq with ⟨rfl, h1, h2⟩ | ⟨rfl, h1, f2, f3⟩
      · refine ⟨F' 4, m', ?_, .inr ⟨by rw [hd, h1], h2⟩⟩
        rw [hd, h1]
        simp only [erdec_0, erdec_1, erdec_10, erdec_2, erdec_3, erdec_4, erdec_5, erdec_6, erdec_7, erdec_8, erdec_9, lrdec_0, lrdec_1, lrdec_2, lrdec_3, lrdec_4, lrdec_5, lrdec_6, lrdec_7, lrdec_8, lrdec_9, lrdec_10, grdec_1_3, grdec_1_7, grdec_7_4, agd_none, gdAt, gdV_bool, gdV_undef, Tryd.f10, List.append_eq, List.cons_append, List.nil_append, apure_call1, apure_call2, apure_call3, bft, btf, acodeN, List.getElem?_toArray, List.getElem?_cons_zero, List.getElem?_cons_succ, aopsN, adrawT, cls, astep, aop, afloat, ev, nth_lst, get_lst, aput, setAt_lst, upd_at, init_zero, init_succ, init_nil, Nat.reduceLT, Nat.reduceEqDiff, reduceIte, len_N, abuiltin_app, Option.map_some, Option.map_none, orElse_some, apure_add, apure_eqlV, eqlVal_str, eqlVal_bool, eqlVal_ptr, eqlVal_slice, eqlVal_wide, eqlVal_int, allT, ↓aop_eqlV, apure_neq, List.map_cons, List.map_nil, List.all_cons, List.all_nil, lit2, lit1, lit0, List.isEmpty_nil, bls, Bool.false_eq_true, if_true, if_false, List.length_map, beq_self_eq_true, uns, len_S, alen, eql64, q0, gtr64', q1, hr, finish, ares, aresL, ares1]
      · refine ⟨.slice none 0 0, m', ?_, .inl ⟨by rw [hd, h1], rfl⟩⟩
        rw [hd, h1]
        simp only [erdec_0, erdec_1, erdec_10, erdec_2, erdec_3, erdec_4, erdec_5, erdec_6, erdec_7, erdec_8, erdec_9, lrdec_0, lrdec_1, lrdec_2, lrdec_3, lrdec_4, lrdec_5, lrdec_6, lrdec_7, lrdec_8, lrdec_9, lrdec_10, grdec_1_3, grdec_1_7, grdec_7_4, agd_none, gdAt, gdV_bool, gdV_undef, Tryd.f10, List.append_eq, List.cons_append, List.nil_append, apure_call1, apure_call2, apure_call3, bft, btf, acodeN, List.getElem?_toArray, List.getElem?_cons_zero, List.getElem?_cons_succ, aopsN, adrawT, cls, astep, aop, afloat, ev, nth_lst, get_lst, aput, setAt_lst, upd_at, init_zero, init_succ, init_nil, Nat.reduceLT, Nat.reduceEqDiff, reduceIte, len_N, abuiltin_app, Option.map_some, Option.map_none, orElse_some, apure_add, apure_eqlV, eqlVal_str, eqlVal_bool, eqlVal_ptr, eqlVal_slice, eqlVal_wide, eqlVal_int, allT, ↓aop_eqlV, apure_neq, List.map_cons, List.map_nil, List.all_cons, List.all_nil, lit2, lit1, lit0, List.isEmpty_nil, bls, Bool.false_eq_true, if_true, if_false, List.length_map, beq_self_eq_true, uns, len_S, alen, eql64, q0, gtr64', q1, hr, f2, f3, finish, ares, aresL, ares1]
def CDec (self : Self) : Prop := ∀ (m : Mem) (s : ByteArray), s.data.toList.length ≤ 390 → ∃ v m', ainv E self 10 [.string s] m = some (.tuple ⟨[v, .bool (decOk (natsOf s))]⟩, m') ∧ ((decOk (natsOf s) = false ∧ v = .slice none 0 0 ∧ m' = m) ∨ (decOk (natsOf s) = true ∧ NumR m v m' (decV (natsOf s))))
theorem cdec {R : Nat → Self} {K : List Fact} (hR : Runs R K) {n : Nat} (k1 : hasF K 10 = false) (k2 : hasF K 20 = false) (k3 : hasF K 21 = false) (k4 : hasF K 19 = false) (k5 : hasF K 16 = false) (hn : 1000 ≤ n) : CDec (R (n + 3)) := by
  intro m s hs
  obtain ⟨v, m1, h1, h2⟩ := rdec_body (self := R (n + 2)) (nf := n + 3) (m := (m.take E.G).map onlyTab) (s := s) (cmul hR k2 k5 hn) (csmall (n := n + 1) hR k3 (by omega)) (cadd hR k4 k5 hn) hs (by omega)
  unfold ainv
  rw [show ([Value.string s].all lit2) = true from rfl, show E.fast 10 = none from by kernel_rfl]
  simp only [if_true, hR.b k1 h1]
  rcases h2 with ⟨h3, rfl⟩ | ⟨h3, h4⟩
  · exact ⟨.slice none 0 0, m, by unfold acoll; exact if_pos rfl, .inl ⟨h3, rfl, rfl⟩⟩
  · obtain ⟨v', m', h5, h6⟩ := h4.coll2 (m := m) (t := decOk (natsOf s))
    exact ⟨v', m', h5, .inr ⟨h3, h6⟩⟩
end Go.Am.Seat
namespace Go.Am.Seat
open Go.Proofs Go.Am
noncomputable def risn_0 : Array Oper := match Tryd.f17.body with
  | some (.seq (.region _ o _) _) => o
  | _ => #[]
noncomputable def risn_1 : Array Oper := match Tryd.f17.body with
  | some (.seq _ (.seq (.seq (.region _ o _) _) _)) => o
  | _ => #[]
theorem gisn_1_2 {T : List Value} {dd : Option Tmp} {op : Op} {ty : TypeId} {pos : String} {af : Array Edge} {want : Bool} : agd risn_1 T { dst := dd, op := op, type := ty, pos := pos, after := af, guard := some (2, want) } = gdAt T 6 want := agd_at (by kernel_rfl)
theorem gisn_1_6 {T : List Value} {dd : Option Tmp} {op : Op} {ty : TypeId} {pos : String} {af : Array Edge} {want : Bool} : agd risn_1 T { dst := dd, op := op, type := ty, pos := pos, after := af, guard := some (6, want) } = gdAt T 10 want := agd_at (by kernel_rfl)
noncomputable def risn_2 : Array Oper := match Tryd.f17.body with
  | some (.seq _ (.seq (.seq _ (.cond _ (.seq (.region _ o _) _) _)) _)) => o
  | _ => #[]
noncomputable def risn_3 : Array Oper := match Tryd.f17.body with
  | some (.seq _ (.seq _ (.seq (.seq (.region _ o _) _) _))) => o
  | _ => #[]
noncomputable def lpisn_0 : Code := match Tryd.f17.body with
  | some (.seq _ (.seq _ (.seq (.seq _ (.block _ (.loop c))) _))) => c
  | _ => .skip
noncomputable def risn_4 : Array Oper := match Tryd.f17.body with
  | some (.seq _ (.seq _ (.seq (.seq _ (.block _ (.loop (.seq (.region _ o _) _)))) _))) => o
  | _ => #[]
noncomputable def risn_5 : Array Oper := match Tryd.f17.body with
  | some (.seq _ (.seq _ (.seq (.seq _ (.block _ (.loop (.seq _ (.seq _ (.seq (.block _ (.seq (.region _ o _) _)) _)))))) _))) => o
  | _ => #[]
noncomputable def risn_6 : Array Oper := match Tryd.f17.body with
  | some (.seq _ (.seq _ (.seq (.seq _ (.block _ (.loop (.seq _ (.seq _ (.seq (.block _ (.seq _ (.seq (.region _ o _) _))) _)))))) _))) => o
  | _ => #[]
theorem gisn_6_4 {T : List Value} {dd : Option Tmp} {op : Op} {ty : TypeId} {pos : String} {af : Array Edge} {want : Bool} : agd risn_6 T { dst := dd, op := op, type := ty, pos := pos, after := af, guard := some (4, want) } = gdAt T 25 want := agd_at (by kernel_rfl)
noncomputable def risn_7 : Array Oper := match Tryd.f17.body with
  | some (.seq _ (.seq _ (.seq (.seq _ (.block _ (.loop (.seq _ (.seq _ (.seq (.block _ (.seq _ (.seq _ (.cond _ (.seq (.region _ o _) _) _)))) _)))))) _))) => o
  | _ => #[]
noncomputable def risn_8 : Array Oper := match Tryd.f17.body with
  | some (.seq _ (.seq _ (.seq (.seq _ (.block _ (.loop (.seq _ (.seq _ (.seq _ (.region _ o _))))))) _))) => o
  | _ => #[]
theorem lpisn_0_eq : lpisn_0 = (.seq (.region 4 risn_4 false) (.seq (.cond (.tmp 19) .skip (.exit 0)) (.seq (.block 1 (.seq (.region 5 risn_5 false) (.seq (.region 6 risn_6 false) (.cond (.tmp 30) (.seq (.region 7 risn_7 false) .ret) .skip)))) (.region 8 risn_8 false)))) := rfl
noncomputable def risn_9 : Array Oper := match Tryd.f17.body with
  | some (.seq _ (.seq _ (.seq _ (.seq (.region _ o _) _)))) => o
  | _ => #[]
theorem bodyisn : Tryd.f17.body = some (.seq (.region 0 risn_0 false) (.seq (.seq (.region 1 risn_1 false) (.cond (.tmp 15) (.seq (.region 2 risn_2 false) .ret) .skip)) (.seq (.seq (.region 3 risn_3 false) (.block 0 (.loop lpisn_0))) (.seq (.region 9 risn_9 false) .ret)))) := rfl
noncomputable def rmwo_0 : Array Oper := match Tryd.f18.body with
  | some (.seq (.region _ o _) _) => o
  | _ => #[]
noncomputable def rmwo_1 : Array Oper := match Tryd.f18.body with
  | some (.seq _ (.seq (.region _ o _) _)) => o
  | _ => #[]
noncomputable def rmwo_2 : Array Oper := match Tryd.f18.body with
  | some (.seq _ (.seq _ (.seq (.seq (.region _ o _) _) _))) => o
  | _ => #[]
noncomputable def lpmwo_0 : Code := match Tryd.f18.body with
  | some (.seq _ (.seq _ (.seq (.seq _ (.block _ (.loop c))) _))) => c
  | _ => .skip
noncomputable def rmwo_3 : Array Oper := match Tryd.f18.body with
  | some (.seq _ (.seq _ (.seq (.seq _ (.block _ (.loop (.seq (.region _ o _) _)))) _))) => o
  | _ => #[]
noncomputable def rmwo_4 : Array Oper := match Tryd.f18.body with
  | some (.seq _ (.seq _ (.seq (.seq _ (.block _ (.loop (.seq _ (.seq _ (.seq (.block _ (.seq (.region _ o _) _)) _)))))) _))) => o
  | _ => #[]
noncomputable def rmwo_5 : Array Oper := match Tryd.f18.body with
  | some (.seq _ (.seq _ (.seq (.seq _ (.block _ (.loop (.seq _ (.seq _ (.seq (.block _ (.seq _ (.region _ o _))) _)))))) _))) => o
  | _ => #[]
noncomputable def rmwo_6 : Array Oper := match Tryd.f18.body with
  | some (.seq _ (.seq _ (.seq (.seq _ (.block _ (.loop (.seq _ (.seq _ (.seq _ (.region _ o _))))))) _))) => o
  | _ => #[]
theorem lpmwo_0_eq : lpmwo_0 = (.seq (.region 3 rmwo_3 false) (.seq (.cond (.tmp 11) .skip (.exit 0)) (.seq (.block 1 (.seq (.region 4 rmwo_4 false) (.region 5 rmwo_5 false))) (.region 6 rmwo_6 false)))) := rfl
noncomputable def rmwo_7 : Array Oper := match Tryd.f18.body with
  | some (.seq _ (.seq _ (.seq _ (.seq (.region _ o _) _)))) => o
  | _ => #[]
theorem bodymwo : Tryd.f18.body = some (.seq (.region 0 rmwo_0 false) (.seq (.region 1 rmwo_1 false) (.seq (.seq (.region 2 rmwo_2 false) (.block 0 (.loop lpmwo_0))) (.seq (.region 7 rmwo_7 false) .ret)))) := rfl
noncomputable def rwdc_0 : Array Oper := match Tryd.f9.body with
  | some (.seq (.region _ o _) _) => o
  | _ => #[]
noncomputable def rwdc_1 : Array Oper := match Tryd.f9.body with
  | some (.seq _ (.seq (.seq (.region _ o _) _) _)) => o
  | _ => #[]
noncomputable def rwdc_2 : Array Oper := match Tryd.f9.body with
  | some (.seq _ (.seq (.seq _ (.cond _ (.seq (.region _ o _) _) _)) _)) => o
  | _ => #[]
noncomputable def rwdc_3 : Array Oper := match Tryd.f9.body with
  | some (.seq _ (.seq _ (.seq (.region _ o _) _))) => o
  | _ => #[]
noncomputable def rwdc_4 : Array Oper := match Tryd.f9.body with
  | some (.seq _ (.seq _ (.seq _ (.seq (.seq (.region _ o _) _) _)))) => o
  | _ => #[]
noncomputable def lpwdc_0 : Code := match Tryd.f9.body with
  | some (.seq _ (.seq _ (.seq _ (.seq (.seq _ (.block _ (.loop c))) _)))) => c
  | _ => .skip
noncomputable def rwdc_5 : Array Oper := match Tryd.f9.body with
  | some (.seq _ (.seq _ (.seq _ (.seq (.seq _ (.block _ (.loop (.seq (.region _ o _) _)))) _)))) => o
  | _ => #[]
noncomputable def rwdc_6 : Array Oper := match Tryd.f9.body with
  | some (.seq _ (.seq _ (.seq _ (.seq (.seq _ (.block _ (.loop (.seq _ (.seq _ (.seq (.block _ (.seq (.region _ o _) _)) _)))))) _)))) => o
  | _ => #[]
noncomputable def rwdc_7 : Array Oper := match Tryd.f9.body with
  | some (.seq _ (.seq _ (.seq _ (.seq (.seq _ (.block _ (.loop (.seq _ (.seq _ (.seq (.block _ (.seq _ (.seq (.region _ o _) _))) _)))))) _)))) => o
  | _ => #[]
theorem dwdc_7 {self : Self} {B : Nat} {T : List Value} {m : Mem} {lb : List (Nat × Nat)} {ls : Bool} : adrawN E self rwdc_7 B rwdc_7.toList 0 T m lb ls = adrawT E self rwdc_7 B rwdc_7.toList [(false, true), (false, false), (false, false), (false, false), (false, false), (false, false), (false, true), (false, false), (false, false), (false, false), (false, false), (false, false), (false, false)] 0 T m lb ls := adraw_tab (by kernel_rfl)
theorem swdc_7 : E.sr 7 rwdc_7 = false := by kernel_rfl
noncomputable def rwdc_8 : Array Oper := match Tryd.f9.body with
  | some (.seq _ (.seq _ (.seq _ (.seq (.seq _ (.block _ (.loop (.seq _ (.seq _ (.seq (.block _ (.seq _ (.seq _ (.seq (.seq (.region _ o _) _) _)))) _)))))) _)))) => o
  | _ => #[]
noncomputable def rwdc_9 : Array Oper := match Tryd.f9.body with
  | some (.seq _ (.seq _ (.seq _ (.seq (.seq _ (.block _ (.loop (.seq _ (.seq _ (.seq (.block _ (.seq _ (.seq _ (.seq (.seq _ (.cond _ (.seq (.region _ o _) _) _)) _)))) _)))))) _)))) => o
  | _ => #[]
noncomputable def rwdc_10 : Array Oper := match Tryd.f9.body with
  | some (.seq _ (.seq _ (.seq _ (.seq (.seq _ (.block _ (.loop (.seq _ (.seq _ (.seq (.block _ (.seq _ (.seq _ (.seq _ (.region _ o _))))) _)))))) _)))) => o
  | _ => #[]
noncomputable def rwdc_11 : Array Oper := match Tryd.f9.body with
  | some (.seq _ (.seq _ (.seq _ (.seq (.seq _ (.block _ (.loop (.seq _ (.seq _ (.seq _ (.region _ o _))))))) _)))) => o
  | _ => #[]
theorem lpwdc_0_eq : lpwdc_0 = (.seq (.region 5 rwdc_5 false) (.seq (.cond (.tmp 15) .skip (.exit 0)) (.seq (.block 1 (.seq (.region 6 rwdc_6 false) (.seq (.region 7 rwdc_7 true) (.seq (.seq (.region 8 rwdc_8 false) (.cond (.tmp 28) (.seq (.region 9 rwdc_9 false) .ret) .skip)) (.region 10 rwdc_10 false))))) (.region 11 rwdc_11 false)))) := rfl
noncomputable def rwdc_12 : Array Oper := match Tryd.f9.body with
  | some (.seq _ (.seq _ (.seq _ (.seq _ (.seq (.region _ o _) _))))) => o
  | _ => #[]
theorem bodywdc : Tryd.f9.body = some (.seq (.region 0 rwdc_0 false) (.seq (.seq (.region 1 rwdc_1 false) (.cond (.tmp 10) (.seq (.region 2 rwdc_2 false) .ret) .skip)) (.seq (.region 3 rwdc_3 false) (.seq (.seq (.region 4 rwdc_4 false) (.block 0 (.loop lpwdc_0))) (.seq (.region 12 rwdc_12 false) .ret))))) := rfl
end Go.Am.Seat
