/-
  Texts of my own, put together: W3, W4, T.
-/
import Derived.Test.YtmllcnlfocbdjaaGrWireCuts13
import Derived.Test.YtmllcnlfocbdjaaGrWireCuts7
import Derived.Lib.LaidTab
/-
  The document's Split (own work).
-/
set_option linter.unusedSimpArgs false
set_option linter.unusedVariables false
namespace Go.Am.Seat
open Go.Proofs Go.Am
set_option maxRecDepth 100000

theorem minI (a b : Int) (ty : TypeId) : apC2 E.P .min #[3, 3] ty (.int .i64 a) (.int .i64 b) = some (.int .i64 (if b < a then b else a)) := by kernel_rfl
theorem buildS (x : ByteArray) (m : Mem) : abuildSlice E.P 23 1 [(0, .string x)] m = some (.slice (some ⟨m.length, 0, none⟩) 1 1, m ++ [.row false 9 [.string x]]) := by kernel_rfl

/-- A row that grows, at or behind a block. -/
def GL (B : Nat) (m : Mem) (e : TypeId) (v : Value) (l : List Value) : Prop :=
  (l = [] ∧ v = .slice none 0 0) ∨ (∃ b, B ≤ b ∧ v = .slice (some ⟨b, 0, none⟩) l.length l.length ∧ m[b]? = some (.row false e l) ∧ l ≠ [])

theorem appS {B : Nat} {m : Mem} {v : Value} {x : ByteArray} {l : List Value} (h : GL B m 9 v l) (hB : B ≤ m.length) (hl : l.length ≤ 100000) :
    ∃ v' m', aappend E.P 23 23 v (.slice (some ⟨m.length, 0, none⟩) 1 1) (m ++ [.row false 9 [.string x]]) = some (v', m') ∧ GL B m' 9 v' (l ++ [.string x]) ∧ m.length ≤ m'.length ∧ ∀ k, k < B → m'[k]? = m[k]? := by
  have hs := undSS
  have h9 : (E.P.info? 9).map (fun i => (i.size, i.bytes)) = some (1, 16) := by kernel_rfl
  have h10 : ((E.P.info? 9).bind (·.zero)).map (·.cells.size) = some 1 := by kernel_rfl
  obtain ⟨i, h1, h11⟩ := Option.map_eq_some_iff.1 h9
  rw [h1] at h10
  obtain ⟨z, h2, h6⟩ := Option.map_eq_some_iff.1 h10
  simp only [Prod.mk.injEq] at h11
  obtain ⟨h3, h4⟩ := h11
  have h2 : i.zero = some z := h2
  have hsrc : asrc (m ++ [Blk.row false 9 [.string x]]) 1 (.slice (some ⟨m.length, 0, none⟩) 1 1) = some (1, [.string x]) := by
    have h : (m ++ [Blk.row false 9 [.string x]])[m.length]? = some (.row false 9 [.string x]) := by simp
    unfold asrc
    simp only [lookRow h]
    rfl
  rcases h with ⟨rfl, rfl⟩ | ⟨b, hBb, rfl, hb, hne⟩
  · refine ⟨.slice (some ⟨(m ++ [Blk.row false 9 [.string x]]).length, 0, none⟩) 1 1, m ++ [.row false 9 [.string x]] ++ [.row false 9 [.string x]], ?_, .inr ⟨_, by simp; omega, rfl, by simp, by simp⟩, by simp, fun k hk => ?_⟩
    · unfold aappend
      simp only [hs, h1, h2, h3, hsrc, isIntD, h6, h4]
      rfl
    · rw [List.append_assoc, List.getElem?_append_left (by omega)]
  · have hbm := lt_of_at hb
    have hb2 : (m ++ [Blk.row false 9 [.string x]])[b]? = some (.row false 9 l) := by rw [List.getElem?_append_left hbm]; exact hb
    refine ⟨.slice (some ⟨(m ++ [Blk.row false 9 [.string x]]).length, 0, none⟩) (l.length + 1) (l.length + 1), (m ++ [Blk.row false 9 [.string x]]).set b .dead ++ [.row false 9 (l ++ [.string x])], ?_, .inr ⟨m.length + 1, by omega, by simp, by rw [List.getElem?_append_right (by simp)]; simp, by simp⟩, by simp; omega, fun k hk => ?_⟩
    · unfold aappend
      simp only [hs, h1, h2, h3, hsrc, isIntD, h6, h4, hb2]
      have hc : ([Value.string x].all cellOk) = true := rfl
      rw [if_neg (by simp [cellOk]), if_neg (by omega), if_pos ⟨trivial, trivial, by omega, by omega⟩]
      simp
    · rw [List.getElem?_append_left (by simp; omega), List.getElem?_set_ne (by omega), List.getElem?_append_left (by omega)]

noncomputable def rrsp_0 : Array Oper := match Try.f8.body with
  | some (.seq (.region _ o _) _) => o
  | _ => #[]
noncomputable def lrsp_0 : List Oper := match Try.f8.body with
  | some (.seq (.region _ o _) _) => o.toList
  | _ => []
theorem ersp_0 : rrsp_0.toList = lrsp_0 := rfl
noncomputable def rrsp_1 : Array Oper := match Try.f8.body with
  | some (.seq _ (.seq (.region _ o _) _)) => o
  | _ => #[]
noncomputable def lrsp_1 : List Oper := match Try.f8.body with
  | some (.seq _ (.seq (.region _ o _) _)) => o.toList
  | _ => []
theorem ersp_1 : rrsp_1.toList = lrsp_1 := rfl
noncomputable def rrsp_2 : Array Oper := match Try.f8.body with
  | some (.seq _ (.seq _ (.seq (.seq (.region _ o _) _) _))) => o
  | _ => #[]
noncomputable def lrsp_2 : List Oper := match Try.f8.body with
  | some (.seq _ (.seq _ (.seq (.seq (.region _ o _) _) _))) => o.toList
  | _ => []
theorem ersp_2 : rrsp_2.toList = lrsp_2 := rfl
noncomputable def lprsp_0 : Code := match Try.f8.body with
  | some (.seq _ (.seq _ (.seq (.seq _ (.block _ (.loop c))) _))) => c
  | _ => .skip
noncomputable def rrsp_3 : Array Oper := match Try.f8.body with
  | some (.seq _ (.seq _ (.seq (.seq _ (.block _ (.loop (.seq (.region _ o _) _)))) _))) => o
  | _ => #[]
noncomputable def lrsp_3 : List Oper := match Try.f8.body with
  | some (.seq _ (.seq _ (.seq (.seq _ (.block _ (.loop (.seq (.region _ o _) _)))) _))) => o.toList
  | _ => []
theorem ersp_3 : rrsp_3.toList = lrsp_3 := rfl
noncomputable def rrsp_4 : Array Oper := match Try.f8.body with
  | some (.seq _ (.seq _ (.seq (.seq _ (.block _ (.loop (.seq _ (.seq _ (.seq (.block _ (.seq (.region _ o _) _)) _)))))) _))) => o
  | _ => #[]
noncomputable def lrsp_4 : List Oper := match Try.f8.body with
  | some (.seq _ (.seq _ (.seq (.seq _ (.block _ (.loop (.seq _ (.seq _ (.seq (.block _ (.seq (.region _ o _) _)) _)))))) _))) => o.toList
  | _ => []
theorem ersp_4 : rrsp_4.toList = lrsp_4 := rfl
noncomputable def rrsp_5 : Array Oper := match Try.f8.body with
  | some (.seq _ (.seq _ (.seq (.seq _ (.block _ (.loop (.seq _ (.seq _ (.seq (.block _ (.seq _ (.seq (.seq (.region _ o _) _) _))) _)))))) _))) => o
  | _ => #[]
noncomputable def lrsp_5 : List Oper := match Try.f8.body with
  | some (.seq _ (.seq _ (.seq (.seq _ (.block _ (.loop (.seq _ (.seq _ (.seq (.block _ (.seq _ (.seq (.seq (.region _ o _) _) _))) _)))))) _))) => o.toList
  | _ => []
theorem ersp_5 : rrsp_5.toList = lrsp_5 := rfl
noncomputable def rrsp_6 : Array Oper := match Try.f8.body with
  | some (.seq _ (.seq _ (.seq (.seq _ (.block _ (.loop (.seq _ (.seq _ (.seq (.block _ (.seq _ (.seq (.seq _ (.cond _ (.seq (.region _ o _) _) _)) _))) _)))))) _))) => o
  | _ => #[]
noncomputable def lrsp_6 : List Oper := match Try.f8.body with
  | some (.seq _ (.seq _ (.seq (.seq _ (.block _ (.loop (.seq _ (.seq _ (.seq (.block _ (.seq _ (.seq (.seq _ (.cond _ (.seq (.region _ o _) _) _)) _))) _)))))) _))) => o.toList
  | _ => []
theorem ersp_6 : rrsp_6.toList = lrsp_6 := rfl
noncomputable def rrsp_7 : Array Oper := match Try.f8.body with
  | some (.seq _ (.seq _ (.seq (.seq _ (.block _ (.loop (.seq _ (.seq _ (.seq (.block _ (.seq _ (.seq _ (.seq (.region _ o _) _)))) _)))))) _))) => o
  | _ => #[]
noncomputable def lrsp_7 : List Oper := match Try.f8.body with
  | some (.seq _ (.seq _ (.seq (.seq _ (.block _ (.loop (.seq _ (.seq _ (.seq (.block _ (.seq _ (.seq _ (.seq (.region _ o _) _)))) _)))))) _))) => o.toList
  | _ => []
theorem ersp_7 : rrsp_7.toList = lrsp_7 := rfl
noncomputable def rrsp_8 : Array Oper := match Try.f8.body with
  | some (.seq _ (.seq _ (.seq (.seq _ (.block _ (.loop (.seq _ (.seq _ (.seq (.block _ (.seq _ (.seq _ (.seq _ (.cond _ (.region _ o _) _))))) _)))))) _))) => o
  | _ => #[]
noncomputable def lrsp_8 : List Oper := match Try.f8.body with
  | some (.seq _ (.seq _ (.seq (.seq _ (.block _ (.loop (.seq _ (.seq _ (.seq (.block _ (.seq _ (.seq _ (.seq _ (.cond _ (.region _ o _) _))))) _)))))) _))) => o.toList
  | _ => []
theorem ersp_8 : rrsp_8.toList = lrsp_8 := rfl
noncomputable def rrsp_9 : Array Oper := match Try.f8.body with
  | some (.seq _ (.seq _ (.seq (.seq _ (.block _ (.loop (.seq _ (.seq _ (.seq _ (.region _ o _))))))) _))) => o
  | _ => #[]
noncomputable def lrsp_9 : List Oper := match Try.f8.body with
  | some (.seq _ (.seq _ (.seq (.seq _ (.block _ (.loop (.seq _ (.seq _ (.seq _ (.region _ o _))))))) _))) => o.toList
  | _ => []
theorem ersp_9 : rrsp_9.toList = lrsp_9 := rfl
theorem lprsp_0_eq : lprsp_0 = (.seq (.region 3 rrsp_3 false) (.seq (.cond (.tmp 16) .skip (.exit 0)) (.seq (.block 1 (.seq (.region 4 rrsp_4 false) (.seq (.seq (.region 5 rrsp_5 false) (.cond (.tmp 20) (.seq (.region 6 rrsp_6 false) .ret) .skip)) (.seq (.region 7 rrsp_7 false) (.cond (.tmp 24) (.region 8 rrsp_8 false) .skip))))) (.region 9 rrsp_9 false)))) := rfl
noncomputable def rrsp_10 : Array Oper := match Try.f8.body with
  | some (.seq _ (.seq _ (.seq _ (.seq (.seq (.region _ o _) _) _)))) => o
  | _ => #[]
noncomputable def lrsp_10 : List Oper := match Try.f8.body with
  | some (.seq _ (.seq _ (.seq _ (.seq (.seq (.region _ o _) _) _)))) => o.toList
  | _ => []
theorem ersp_10 : rrsp_10.toList = lrsp_10 := rfl
noncomputable def rrsp_11 : Array Oper := match Try.f8.body with
  | some (.seq _ (.seq _ (.seq _ (.seq (.seq _ (.cond _ (.seq (.region _ o _) _) _)) _)))) => o
  | _ => #[]
noncomputable def lrsp_11 : List Oper := match Try.f8.body with
  | some (.seq _ (.seq _ (.seq _ (.seq (.seq _ (.cond _ (.seq (.region _ o _) _) _)) _)))) => o.toList
  | _ => []
theorem ersp_11 : rrsp_11.toList = lrsp_11 := rfl
noncomputable def rrsp_12 : Array Oper := match Try.f8.body with
  | some (.seq _ (.seq _ (.seq _ (.seq _ (.seq (.seq (.region _ o _) _) _))))) => o
  | _ => #[]
noncomputable def lrsp_12 : List Oper := match Try.f8.body with
  | some (.seq _ (.seq _ (.seq _ (.seq _ (.seq (.seq (.region _ o _) _) _))))) => o.toList
  | _ => []
theorem ersp_12 : rrsp_12.toList = lrsp_12 := rfl
noncomputable def rrsp_13 : Array Oper := match Try.f8.body with
  | some (.seq _ (.seq _ (.seq _ (.seq _ (.seq (.seq _ (.cond _ (.seq (.region _ o _) _) _)) _))))) => o
  | _ => #[]
noncomputable def lrsp_13 : List Oper := match Try.f8.body with
  | some (.seq _ (.seq _ (.seq _ (.seq _ (.seq (.seq _ (.cond _ (.seq (.region _ o _) _) _)) _))))) => o.toList
  | _ => []
theorem ersp_13 : rrsp_13.toList = lrsp_13 := rfl
noncomputable def rrsp_14 : Array Oper := match Try.f8.body with
  | some (.seq _ (.seq _ (.seq _ (.seq _ (.seq _ (.seq (.region _ o _) _)))))) => o
  | _ => #[]
noncomputable def lrsp_14 : List Oper := match Try.f8.body with
  | some (.seq _ (.seq _ (.seq _ (.seq _ (.seq _ (.seq (.region _ o _) _)))))) => o.toList
  | _ => []
theorem ersp_14 : rrsp_14.toList = lrsp_14 := rfl
noncomputable def rrsp_15 : Array Oper := match Try.f8.body with
  | some (.seq _ (.seq _ (.seq _ (.seq _ (.seq _ (.seq _ (.seq (.region _ o _) _))))))) => o
  | _ => #[]
noncomputable def lrsp_15 : List Oper := match Try.f8.body with
  | some (.seq _ (.seq _ (.seq _ (.seq _ (.seq _ (.seq _ (.seq (.region _ o _) _))))))) => o.toList
  | _ => []
theorem ersp_15 : rrsp_15.toList = lrsp_15 := rfl
noncomputable def rrsp_16 : Array Oper := match Try.f8.body with
  | some (.seq _ (.seq _ (.seq _ (.seq _ (.seq _ (.seq _ (.seq _ (.seq (.seq (.region _ o _) _) _)))))))) => o
  | _ => #[]
noncomputable def lrsp_16 : List Oper := match Try.f8.body with
  | some (.seq _ (.seq _ (.seq _ (.seq _ (.seq _ (.seq _ (.seq _ (.seq (.seq (.region _ o _) _) _)))))))) => o.toList
  | _ => []
theorem ersp_16 : rrsp_16.toList = lrsp_16 := rfl
noncomputable def lprsp_1 : Code := match Try.f8.body with
  | some (.seq _ (.seq _ (.seq _ (.seq _ (.seq _ (.seq _ (.seq _ (.seq (.seq _ (.block _ (.loop c))) _)))))))) => c
  | _ => .skip
noncomputable def rrsp_17 : Array Oper := match Try.f8.body with
  | some (.seq _ (.seq _ (.seq _ (.seq _ (.seq _ (.seq _ (.seq _ (.seq (.seq _ (.block _ (.loop (.seq (.region _ o _) _)))) _)))))))) => o
  | _ => #[]
noncomputable def lrsp_17 : List Oper := match Try.f8.body with
  | some (.seq _ (.seq _ (.seq _ (.seq _ (.seq _ (.seq _ (.seq _ (.seq (.seq _ (.block _ (.loop (.seq (.region _ o _) _)))) _)))))))) => o.toList
  | _ => []
theorem ersp_17 : rrsp_17.toList = lrsp_17 := rfl
noncomputable def rrsp_18 : Array Oper := match Try.f8.body with
  | some (.seq _ (.seq _ (.seq _ (.seq _ (.seq _ (.seq _ (.seq _ (.seq (.seq _ (.block _ (.loop (.seq _ (.seq _ (.seq (.block _ (.seq (.region _ o _) _)) _)))))) _)))))))) => o
  | _ => #[]
noncomputable def lrsp_18 : List Oper := match Try.f8.body with
  | some (.seq _ (.seq _ (.seq _ (.seq _ (.seq _ (.seq _ (.seq _ (.seq (.seq _ (.block _ (.loop (.seq _ (.seq _ (.seq (.block _ (.seq (.region _ o _) _)) _)))))) _)))))))) => o.toList
  | _ => []
theorem ersp_18 : rrsp_18.toList = lrsp_18 := rfl
noncomputable def rrsp_19 : Array Oper := match Try.f8.body with
  | some (.seq _ (.seq _ (.seq _ (.seq _ (.seq _ (.seq _ (.seq _ (.seq (.seq _ (.block _ (.loop (.seq _ (.seq _ (.seq (.block _ (.seq _ (.seq (.region _ o _) _))) _)))))) _)))))))) => o
  | _ => #[]
noncomputable def lrsp_19 : List Oper := match Try.f8.body with
  | some (.seq _ (.seq _ (.seq _ (.seq _ (.seq _ (.seq _ (.seq _ (.seq (.seq _ (.block _ (.loop (.seq _ (.seq _ (.seq (.block _ (.seq _ (.seq (.region _ o _) _))) _)))))) _)))))))) => o.toList
  | _ => []
theorem ersp_19 : rrsp_19.toList = lrsp_19 := rfl
noncomputable def rrsp_20 : Array Oper := match Try.f8.body with
  | some (.seq _ (.seq _ (.seq _ (.seq _ (.seq _ (.seq _ (.seq _ (.seq (.seq _ (.block _ (.loop (.seq _ (.seq _ (.seq (.block _ (.seq _ (.seq _ (.region _ o _)))) _)))))) _)))))))) => o
  | _ => #[]
noncomputable def lrsp_20 : List Oper := match Try.f8.body with
  | some (.seq _ (.seq _ (.seq _ (.seq _ (.seq _ (.seq _ (.seq _ (.seq (.seq _ (.block _ (.loop (.seq _ (.seq _ (.seq (.block _ (.seq _ (.seq _ (.region _ o _)))) _)))))) _)))))))) => o.toList
  | _ => []
theorem ersp_20 : rrsp_20.toList = lrsp_20 := rfl
noncomputable def rrsp_21 : Array Oper := match Try.f8.body with
  | some (.seq _ (.seq _ (.seq _ (.seq _ (.seq _ (.seq _ (.seq _ (.seq (.seq _ (.block _ (.loop (.seq _ (.seq _ (.seq _ (.region _ o _))))))) _)))))))) => o
  | _ => #[]
noncomputable def lrsp_21 : List Oper := match Try.f8.body with
  | some (.seq _ (.seq _ (.seq _ (.seq _ (.seq _ (.seq _ (.seq _ (.seq (.seq _ (.block _ (.loop (.seq _ (.seq _ (.seq _ (.region _ o _))))))) _)))))))) => o.toList
  | _ => []
theorem ersp_21 : rrsp_21.toList = lrsp_21 := rfl
theorem lprsp_1_eq : lprsp_1 = (.seq (.region 17 rrsp_17 false) (.seq (.cond (.tmp 44) .skip (.exit 2)) (.seq (.block 3 (.seq (.region 18 rrsp_18 false) (.seq (.region 19 rrsp_19 false) (.region 20 rrsp_20 false)))) (.region 21 rrsp_21 false)))) := rfl
noncomputable def rrsp_22 : Array Oper := match Try.f8.body with
  | some (.seq _ (.seq _ (.seq _ (.seq _ (.seq _ (.seq _ (.seq _ (.seq _ (.seq (.region _ o _) _))))))))) => o
  | _ => #[]
noncomputable def lrsp_22 : List Oper := match Try.f8.body with
  | some (.seq _ (.seq _ (.seq _ (.seq _ (.seq _ (.seq _ (.seq _ (.seq _ (.seq (.region _ o _) _))))))))) => o.toList
  | _ => []
theorem ersp_22 : rrsp_22.toList = lrsp_22 := rfl
theorem bodyrsp : Try.f8.body = some (.seq (.region 0 rrsp_0 false) (.seq (.region 1 rrsp_1 false) (.seq (.seq (.region 2 rrsp_2 false) (.block 0 (.loop lprsp_0))) (.seq (.seq (.region 10 rrsp_10 false) (.cond (.tmp 36) (.seq (.region 11 rrsp_11 false) .ret) .skip)) (.seq (.seq (.region 12 rrsp_12 false) (.cond (.tmp 40) (.seq (.region 13 rrsp_13 false) .ret) .skip)) (.seq (.region 14 rrsp_14 false) (.seq (.region 15 rrsp_15 false) (.seq (.seq (.region 16 rrsp_16 false) (.block 2 (.loop lprsp_1))) (.seq (.region 22 rrsp_22 false) .ret))))))))) := rfl
-- ntmps 61

/-- How far the first parts reach. -/
def psum (szs : List Int) (i : Nat) : Nat := ((szs.take i).map Int.toNat).sum
theorem psum_zero (szs : List Int) : psum szs 0 = 0 := rfl
theorem psum_step {szs : List Int} {i : Nat} {n : Int} (h : szs[i]? = some n) : psum szs (i + 1) = psum szs i + n.toNat := by
  unfold psum
  rw [List.take_add_one, h]
  simp
theorem psum_le (szs : List Int) {i j : Nat} (h : i ≤ j) : psum szs i ≤ psum szs j := by
  unfold psum
  rw [show szs.take i = (szs.take j).take i by rw [List.take_take, Nat.min_eq_left h], List.map_take]
  exact sum_take_le _ _
def cutAt (s : ByteArray) (szs : List Int) (i : Nat) : ByteArray := s.extract (psum szs i) (psum szs (i + 1))
/-- What Split comes to, by the document. -/
def splitE (s : ByteArray) (szs : List Int) : Nat := if szs.any (fun n => decide (n < 0)) then 2 else if psum szs szs.length > s.data.toList.length then 3 else if psum szs szs.length < s.data.toList.length then 4 else 0
def splitL (s : ByteArray) (szs : List Int) : List ByteArray := if splitE s szs = 0 then (List.range szs.length).map (cutAt s szs) else []

/-- How the total stands. -/
def TI (len S tot : Nat) : Prop := (S ≤ len ∧ tot = S) ∨ (S > len ∧ len < tot ∧ tot ≤ 2 * len + 1)
theorem TI.step {len S tot n : Nat} (h : TI len S tot) : TI len (S + n) (if tot ≤ len then tot + (if len + 1 < n then len + 1 else n) else tot) := by
  unfold TI at h ⊢
  split
  · split <;> omega
  · omega

section
variable {self : Self} {nf : Nat} {m : Mem} {F : Nat → Value} {b o c L i at_ : Nat} {s : ByteArray} {n : Int} {tot : Nat}

theorem rsp_iterA {tn : Nat} {q : Int} (hmin : ∀ ty, apC2 E.P .min #[3, 3] ty (.int .i64 n) (.int .i64 ((s.data.toList.length + 1 : Nat) : Int)) = some (.int .i64 q)) (h0 : F 0 = .string s) (h13 : F 13 = .slice (some ⟨b, o, none⟩) L c) (h14 : F 14 = .int .i64 (L : Nat)) (h15 : F 15 = .int .i64 (i : Nat)) (h6 : F 6 = .int .i64 (tot : Nat)) (hi : i < L)
    (hx : cellAt m b (o + i) = some (.int .i64 n)) (hng : decide (n < 0) = false) (hd : decide (((tot : Nat) : Int) ≤ ((s.data.toList.length : Nat) : Int)) = true) (e1 : wrapF .i64 ((i : Int) + 1) = ((i + 1 : Nat) : Int))
    (e2 : wrapF .i64 (((s.data.toList.length : Nat) : Int) + 1) = ((s.data.toList.length + 1 : Nat) : Int)) (e3 : wrapF .i64 (((tot : Nat) : Int) + q) = ((tn : Nat) : Int)) :
    ∃ F', acodeN E self nf lprsp_0 (lst F 61) m = some (.normal, lst F' 61, m) ∧ F' 0 = F 0 ∧ F' 1 = F 1 ∧ F' 13 = F 13 ∧ F' 14 = F 14 ∧ F' 15 = .int .i64 ((i + 1 : Nat) : Int) ∧ F' 6 = .int .i64 ((tn : Nat) : Int) := by
  have hlt : decide (((i : Nat) : Int) < ((L : Nat) : Int)) = true := by simpa using hi
  simp only [lprsp_0_eq, ersp_0, ersp_1, ersp_10, ersp_11, ersp_12, ersp_13, ersp_14, ersp_15, ersp_16, ersp_17, ersp_18, ersp_19, ersp_2, ersp_20, ersp_21, ersp_22, ersp_3, ersp_4, ersp_5, ersp_6, ersp_7, ersp_8, ersp_9, lrsp_0, lrsp_1, lrsp_2, lrsp_3, lrsp_4, lrsp_5, lrsp_6, lrsp_7, lrsp_8, lrsp_9, lrsp_10, lrsp_11, lrsp_12, lrsp_13, lrsp_14, lrsp_15, lrsp_16, lrsp_17, lrsp_18, lrsp_19, lrsp_20, lrsp_21, lrsp_22, agd_none, gdAt, gdV_bool, gdV_undef, Try.f8, List.append_eq, List.cons_append, List.nil_append, apure_call1, apure_call2, apure_call3, bft, btf, acodeN, List.getElem?_toArray, List.getElem?_cons_zero, List.getElem?_cons_succ, aopsN, adrawT, cls, astep, aop, afloat, ev, nth_lst, get_lst, aput, setAt_lst, upd_at, init_zero, init_succ, init_nil, Nat.reduceLT, Nat.reduceEqDiff, reduceIte, abuiltin, alen, Option.map_some, Option.map_none, orElse_some, apure_add, apure_eqlV, eqlVal_str, eqlVal_bool, eqlVal_ptr, eqlVal_slice, eqlVal_int, allT, ↓aop_eqlV, apure_neq, List.map_cons, List.map_nil, List.all_cons, List.all_nil, lit2, lit1, lit0, List.isEmpty_nil, Bool.and_self, Bool.and_true, Bool.true_and, Bool.false_and, Bool.and_false, Bool.not_true, Bool.not_false, Bool.or_true, Bool.true_or, Bool.false_or, Bool.or_false, Bool.false_eq_true, if_true, if_false, List.length_map, beq_self_eq_true, und3, und4, und5, und9, h0, h13, h14, h15, h6, lss64, hlt, ixIS hi, ldI, hx, hng, leq64, hd, add64', e2, hmin, e3, e1]
  exact ⟨_, rfl, by simp only [upd_at, Nat.reduceEqDiff, reduceIte, h0], by simp only [upd_at, Nat.reduceEqDiff, reduceIte], by simp only [upd_at, Nat.reduceEqDiff, reduceIte, h13], by simp only [upd_at, Nat.reduceEqDiff, reduceIte, h14], by simp only [upd_at, Nat.reduceEqDiff, reduceIte], by simp only [upd_at, Nat.reduceEqDiff, reduceIte]⟩

theorem rsp_iterB (h0 : F 0 = .string s) (h13 : F 13 = .slice (some ⟨b, o, none⟩) L c) (h14 : F 14 = .int .i64 (L : Nat)) (h15 : F 15 = .int .i64 (i : Nat)) (h6 : F 6 = .int .i64 (tot : Nat)) (hi : i < L)
    (hx : cellAt m b (o + i) = some (.int .i64 n)) (hng : decide (n < 0) = false) (hd : decide (((tot : Nat) : Int) ≤ ((s.data.toList.length : Nat) : Int)) = false) (e1 : wrapF .i64 ((i : Int) + 1) = ((i + 1 : Nat) : Int)) :
    ∃ F', acodeN E self nf lprsp_0 (lst F 61) m = some (.normal, lst F' 61, m) ∧ F' 0 = F 0 ∧ F' 1 = F 1 ∧ F' 13 = F 13 ∧ F' 14 = F 14 ∧ F' 15 = .int .i64 ((i + 1 : Nat) : Int) ∧ F' 6 = .int .i64 ((tot : Nat) : Int) := by
  have hlt : decide (((i : Nat) : Int) < ((L : Nat) : Int)) = true := by simpa using hi
  simp only [lprsp_0_eq, ersp_0, ersp_1, ersp_10, ersp_11, ersp_12, ersp_13, ersp_14, ersp_15, ersp_16, ersp_17, ersp_18, ersp_19, ersp_2, ersp_20, ersp_21, ersp_22, ersp_3, ersp_4, ersp_5, ersp_6, ersp_7, ersp_8, ersp_9, lrsp_0, lrsp_1, lrsp_2, lrsp_3, lrsp_4, lrsp_5, lrsp_6, lrsp_7, lrsp_8, lrsp_9, lrsp_10, lrsp_11, lrsp_12, lrsp_13, lrsp_14, lrsp_15, lrsp_16, lrsp_17, lrsp_18, lrsp_19, lrsp_20, lrsp_21, lrsp_22, agd_none, gdAt, gdV_bool, gdV_undef, Try.f8, List.append_eq, List.cons_append, List.nil_append, apure_call1, apure_call2, apure_call3, bft, btf, acodeN, List.getElem?_toArray, List.getElem?_cons_zero, List.getElem?_cons_succ, aopsN, adrawT, cls, astep, aop, afloat, ev, nth_lst, get_lst, aput, setAt_lst, upd_at, init_zero, init_succ, init_nil, Nat.reduceLT, Nat.reduceEqDiff, reduceIte, abuiltin, alen, Option.map_some, Option.map_none, orElse_some, apure_add, apure_eqlV, eqlVal_str, eqlVal_bool, eqlVal_ptr, eqlVal_slice, eqlVal_int, allT, ↓aop_eqlV, apure_neq, List.map_cons, List.map_nil, List.all_cons, List.all_nil, lit2, lit1, lit0, List.isEmpty_nil, Bool.and_self, Bool.and_true, Bool.true_and, Bool.false_and, Bool.and_false, Bool.not_true, Bool.not_false, Bool.or_true, Bool.true_or, Bool.false_or, Bool.or_false, Bool.false_eq_true, if_true, if_false, List.length_map, beq_self_eq_true, und3, und4, und5, und9, h0, h13, h14, h15, h6, lss64, hlt, ixIS hi, ldI, hx, hng, leq64, hd, add64', e1]
  exact ⟨_, rfl, by simp only [upd_at, Nat.reduceEqDiff, reduceIte, h0], by simp only [upd_at, Nat.reduceEqDiff, reduceIte], by simp only [upd_at, Nat.reduceEqDiff, reduceIte, h13], by simp only [upd_at, Nat.reduceEqDiff, reduceIte, h14], by simp only [upd_at, Nat.reduceEqDiff, reduceIte], by simp only [upd_at, Nat.reduceEqDiff, reduceIte, h6]⟩

theorem rsp_iter {S : Nat} (hT : TI s.data.toList.length S tot) (h0 : F 0 = .string s) (h13 : F 13 = .slice (some ⟨b, o, none⟩) L c) (h14 : F 14 = .int .i64 (L : Nat)) (h15 : F 15 = .int .i64 (i : Nat)) (h6 : F 6 = .int .i64 (tot : Nat)) (hi : i < L) (hL : L ≤ 1000000)
    (hx : cellAt m b (o + i) = some (.int .i64 n)) (hn : 0 ≤ n) (hs : s.data.toList.length ≤ 1000000) :
    ∃ F' tn, acodeN E self nf lprsp_0 (lst F 61) m = some (.normal, lst F' 61, m) ∧ F' 0 = F 0 ∧ F' 1 = F 1 ∧ F' 13 = F 13 ∧ F' 14 = F 14 ∧ F' 15 = .int .i64 ((i + 1 : Nat) : Int) ∧ F' 6 = .int .i64 ((tn : Nat) : Int) ∧ TI s.data.toList.length (S + n.toNat) tn := by
  have hng : decide (n < 0) = false := decide_eq_false (by omega)
  have e1 := w1 (i := i) (by omega)
  have e2 := w1 (i := s.data.toList.length) (by omega)
  have hst := hT.step (n := n.toNat)
  have ht : tot ≤ 2 * s.data.toList.length + 1 := by unfold TI at hT; omega
  by_cases hle : tot ≤ s.data.toList.length
  · have hd : decide (((tot : Nat) : Int) ≤ ((s.data.toList.length : Nat) : Int)) = true := decide_eq_true (by omega)
    rw [if_pos hle] at hst
    generalize hq : (if s.data.toList.length + 1 < n.toNat then s.data.toList.length + 1 else n.toNat) = q at hst
    have e3 : wrapF .i64 (((tot : Nat) : Int) + (if ((s.data.toList.length + 1 : Nat) : Int) < n then ((s.data.toList.length + 1 : Nat) : Int) else n)) = ((tot + q : Nat) : Int) := by
      obtain ⟨k, rfl⟩ := Int.eq_ofNat_of_zero_le hn
      rw [Int.toNat_natCast] at hq
      by_cases h9 : s.data.toList.length + 1 < k
      · rw [if_pos h9] at hq
        rw [if_pos (by omega), wrap_i64 (by omega) (by omega)]; omega
      · rw [if_neg h9] at hq
        rw [if_neg (by omega), wrap_i64 (by omega) (by omega)]; omega
    obtain ⟨F', h1, h2, h3, h4, h5, h6, h7⟩ := rsp_iterA (self := self) (nf := nf) (fun ty => minI _ _ ty) h0 h13 h14 h15 h6 hi hx hng hd e1 e2 e3
    exact ⟨F', tot + q, h1, h2, h3, h4, h5, h6, h7, hst⟩
  · have hd : decide (((tot : Nat) : Int) ≤ ((s.data.toList.length : Nat) : Int)) = false := decide_eq_false (by omega)
    rw [if_neg hle] at hst
    obtain ⟨F', h1, h2, h3, h4, h5, h6, h7⟩ := rsp_iterB (self := self) (nf := nf) h0 h13 h14 h15 h6 hi hx hng hd e1
    exact ⟨F', tot, h1, h2, h3, h4, h5, h6, h7, hst⟩

theorem rsp_bad (h13 : F 13 = .slice (some ⟨b, o, none⟩) L c) (h14 : F 14 = .int .i64 (L : Nat)) (h15 : F 15 = .int .i64 (i : Nat)) (hi : i < L)
    (hx : cellAt m b (o + i) = some (.int .i64 n)) (hn : n < 0) :
    ∃ F', acodeN E self nf lprsp_0 (lst F 61) m = some (.ret, lst F' 61, m) ∧ F' 4 = .slice none 0 0 ∧ F' 5 = .int .i64 2 := by
  have hlt : decide (((i : Nat) : Int) < ((L : Nat) : Int)) = true := by simpa using hi
  have hng : decide (n < 0) = true := decide_eq_true hn
  simp only [lprsp_0_eq, ersp_0, ersp_1, ersp_10, ersp_11, ersp_12, ersp_13, ersp_14, ersp_15, ersp_16, ersp_17, ersp_18, ersp_19, ersp_2, ersp_20, ersp_21, ersp_22, ersp_3, ersp_4, ersp_5, ersp_6, ersp_7, ersp_8, ersp_9, lrsp_0, lrsp_1, lrsp_2, lrsp_3, lrsp_4, lrsp_5, lrsp_6, lrsp_7, lrsp_8, lrsp_9, lrsp_10, lrsp_11, lrsp_12, lrsp_13, lrsp_14, lrsp_15, lrsp_16, lrsp_17, lrsp_18, lrsp_19, lrsp_20, lrsp_21, lrsp_22, agd_none, gdAt, gdV_bool, gdV_undef, Try.f8, List.append_eq, List.cons_append, List.nil_append, apure_call1, apure_call2, apure_call3, bft, btf, acodeN, List.getElem?_toArray, List.getElem?_cons_zero, List.getElem?_cons_succ, aopsN, adrawT, cls, astep, aop, afloat, ev, nth_lst, get_lst, aput, setAt_lst, upd_at, init_zero, init_succ, init_nil, Nat.reduceLT, Nat.reduceEqDiff, reduceIte, abuiltin, alen, Option.map_some, Option.map_none, orElse_some, apure_add, apure_eqlV, eqlVal_str, eqlVal_bool, eqlVal_ptr, eqlVal_slice, eqlVal_int, allT, ↓aop_eqlV, apure_neq, List.map_cons, List.map_nil, List.all_cons, List.all_nil, lit2, lit1, lit0, List.isEmpty_nil, Bool.and_self, Bool.and_true, Bool.true_and, Bool.false_and, Bool.and_false, Bool.not_true, Bool.not_false, Bool.or_true, Bool.true_or, Bool.false_or, Bool.or_false, Bool.false_eq_true, if_true, if_false, List.length_map, beq_self_eq_true, und3, und4, und5, und9, h13, h14, h15, lss64, hlt, ixIS hi, ldI, hx, hng]
  exact ⟨_, rfl, by simp only [upd_at, Nat.reduceEqDiff, reduceIte], by simp only [upd_at, Nat.reduceEqDiff, reduceIte]⟩

theorem rsp_last (h14 : F 14 = .int .i64 (L : Nat)) (h15 : F 15 = .int .i64 (i : Nat)) (hi : L ≤ i) :
    ∃ F', acodeN E self nf lprsp_0 (lst F 61) m = some (.exit 0, lst F' 61, m) ∧ F' 0 = F 0 ∧ F' 1 = F 1 ∧ F' 6 = F 6 := by
  have hlt : decide (((i : Nat) : Int) < ((L : Nat) : Int)) = false := by simpa using hi
  simp only [lprsp_0_eq, ersp_0, ersp_1, ersp_10, ersp_11, ersp_12, ersp_13, ersp_14, ersp_15, ersp_16, ersp_17, ersp_18, ersp_19, ersp_2, ersp_20, ersp_21, ersp_22, ersp_3, ersp_4, ersp_5, ersp_6, ersp_7, ersp_8, ersp_9, lrsp_0, lrsp_1, lrsp_2, lrsp_3, lrsp_4, lrsp_5, lrsp_6, lrsp_7, lrsp_8, lrsp_9, lrsp_10, lrsp_11, lrsp_12, lrsp_13, lrsp_14, lrsp_15, lrsp_16, lrsp_17, lrsp_18, lrsp_19, lrsp_20, lrsp_21, lrsp_22, agd_none, gdAt, gdV_bool, gdV_undef, Try.f8, List.append_eq, List.cons_append, List.nil_append, apure_call1, apure_call2, apure_call3, bft, btf, acodeN, List.getElem?_toArray, List.getElem?_cons_zero, List.getElem?_cons_succ, aopsN, adrawT, cls, astep, aop, afloat, ev, nth_lst, get_lst, aput, setAt_lst, upd_at, init_zero, init_succ, init_nil, Nat.reduceLT, Nat.reduceEqDiff, reduceIte, abuiltin, alen, Option.map_some, Option.map_none, orElse_some, apure_add, apure_eqlV, eqlVal_str, eqlVal_bool, eqlVal_ptr, eqlVal_slice, eqlVal_int, allT, ↓aop_eqlV, apure_neq, List.map_cons, List.map_nil, List.all_cons, List.all_nil, lit2, lit1, lit0, List.isEmpty_nil, Bool.and_self, Bool.and_true, Bool.true_and, Bool.false_and, Bool.and_false, Bool.not_true, Bool.not_false, Bool.or_true, Bool.true_or, Bool.false_or, Bool.or_false, Bool.false_eq_true, if_true, if_false, List.length_map, beq_self_eq_true, und3, und4, und5, und9, h14, h15, lss64, hlt]
  exact ⟨_, rfl, by simp only [upd_at, Nat.reduceEqDiff, reduceIte], by simp only [upd_at, Nat.reduceEqDiff, reduceIte], by simp only [upd_at, Nat.reduceEqDiff, reduceIte]⟩

theorem rsp2_iter {B : Nat} {l : List Value} (h0 : F 0 = .string s) (h41 : F 41 = .slice (some ⟨b, o, none⟩) L c) (h42 : F 42 = .int .i64 (L : Nat)) (h43 : F 43 = .int .i64 (i : Nat)) (h10 : F 10 = .int .i64 (at_ : Nat)) (hi : i < L) (hL : L ≤ 1000000)
    (hx : cellAt m b (o + i) = some (.int .i64 n)) (hn : 0 ≤ n) (hs : s.data.toList.length ≤ 1000000) (hat : at_ + n.toNat ≤ s.data.toList.length) (hS : GL B m 9 (F 9) l) (hB : B ≤ m.length) (hl : l.length ≤ 100000) :
    ∃ F' m', acodeN E self nf lprsp_1 (lst F 61) m = some (.normal, lst F' 61, m') ∧ F' 0 = F 0 ∧ F' 41 = F 41 ∧ F' 42 = F 42 ∧ F' 43 = .int .i64 ((i + 1 : Nat) : Int) ∧ F' 10 = .int .i64 ((at_ + n.toNat : Nat) : Int) ∧ GL B m' 9 (F' 9) (l ++ [.string (s.extract at_ (at_ + n.toNat))]) ∧ m.length ≤ m'.length ∧ ∀ k, k < B → m'[k]? = m[k]? := by
  have hlt : decide (((i : Nat) : Int) < ((L : Nat) : Int)) = true := by simpa using hi
  have e1 := w1 (i := i) (by omega)
  obtain ⟨k, rfl⟩ := Int.eq_ofNat_of_zero_le hn
  simp only [Int.toNat_natCast] at hat ⊢
  have e2 : wrapF .i64 (((at_ : Nat) : Int) + ((k : Nat) : Int)) = ((at_ + k : Nat) : Int) := by rw [wrap_i64 (by omega) (by omega)]; omega
  have hsl : sliceS s ((at_ : Nat) : Int) ((at_ + k : Nat) : Int) = some (.string (s.extract at_ (at_ + k))) := by
    unfold sliceS
    have : s.size = s.data.toList.length := rfl
    rw [if_pos (by omega), if_pos (by omega)]
    rfl
  obtain ⟨v', m', happ, hS', hle, hfr⟩ := appS (x := s.extract at_ (at_ + k)) hS hB hl
  simp only [lprsp_1_eq, ersp_0, ersp_1, ersp_10, ersp_11, ersp_12, ersp_13, ersp_14, ersp_15, ersp_16, ersp_17, ersp_18, ersp_19, ersp_2, ersp_20, ersp_21, ersp_22, ersp_3, ersp_4, ersp_5, ersp_6, ersp_7, ersp_8, ersp_9, lrsp_0, lrsp_1, lrsp_2, lrsp_3, lrsp_4, lrsp_5, lrsp_6, lrsp_7, lrsp_8, lrsp_9, lrsp_10, lrsp_11, lrsp_12, lrsp_13, lrsp_14, lrsp_15, lrsp_16, lrsp_17, lrsp_18, lrsp_19, lrsp_20, lrsp_21, lrsp_22, agd_none, gdAt, gdV_bool, gdV_undef, Try.f8, List.append_eq, List.cons_append, List.nil_append, apure_call1, apure_call2, apure_call3, bft, btf, acodeN, List.getElem?_toArray, List.getElem?_cons_zero, List.getElem?_cons_succ, aopsN, adrawT, cls, astep, aop, afloat, ev, nth_lst, get_lst, aput, setAt_lst, upd_at, init_zero, init_succ, init_nil, Nat.reduceLT, Nat.reduceEqDiff, reduceIte, abuiltin, alen, Option.map_some, Option.map_none, orElse_some, apure_add, apure_eqlV, eqlVal_str, eqlVal_bool, eqlVal_ptr, eqlVal_slice, eqlVal_int, allT, ↓aop_eqlV, apure_neq, List.map_cons, List.map_nil, List.all_cons, List.all_nil, lit2, lit1, lit0, List.isEmpty_nil, Bool.and_self, Bool.and_true, Bool.true_and, Bool.false_and, Bool.and_false, Bool.not_true, Bool.not_false, Bool.or_true, Bool.true_or, Bool.false_or, Bool.or_false, Bool.false_eq_true, if_true, if_false, List.length_map, beq_self_eq_true, und3, und4, und5, und9, h0, h41, h42, h43, h10, lss64, hlt, ixIS hi, ldI, hx, add64', e2, apure_slice2 und9, hsl, buildS, happ, e1]
  exact ⟨_, _, rfl, by simp only [upd_at, Nat.reduceEqDiff, reduceIte, h0], by simp only [upd_at, Nat.reduceEqDiff, reduceIte, h41], by simp only [upd_at, Nat.reduceEqDiff, reduceIte, h42], by simp only [upd_at, Nat.reduceEqDiff, reduceIte], by simp only [upd_at, Nat.reduceEqDiff, reduceIte], by simp only [upd_at, Nat.reduceEqDiff, reduceIte]; exact hS', hle, hfr⟩

theorem rsp2_last (h42 : F 42 = .int .i64 (L : Nat)) (h43 : F 43 = .int .i64 (i : Nat)) (hi : L ≤ i) :
    ∃ F', acodeN E self nf lprsp_1 (lst F 61) m = some (.exit 2, lst F' 61, m) ∧ F' 9 = F 9 := by
  have hlt : decide (((i : Nat) : Int) < ((L : Nat) : Int)) = false := by simpa using hi
  simp only [lprsp_1_eq, ersp_0, ersp_1, ersp_10, ersp_11, ersp_12, ersp_13, ersp_14, ersp_15, ersp_16, ersp_17, ersp_18, ersp_19, ersp_2, ersp_20, ersp_21, ersp_22, ersp_3, ersp_4, ersp_5, ersp_6, ersp_7, ersp_8, ersp_9, lrsp_0, lrsp_1, lrsp_2, lrsp_3, lrsp_4, lrsp_5, lrsp_6, lrsp_7, lrsp_8, lrsp_9, lrsp_10, lrsp_11, lrsp_12, lrsp_13, lrsp_14, lrsp_15, lrsp_16, lrsp_17, lrsp_18, lrsp_19, lrsp_20, lrsp_21, lrsp_22, agd_none, gdAt, gdV_bool, gdV_undef, Try.f8, List.append_eq, List.cons_append, List.nil_append, apure_call1, apure_call2, apure_call3, bft, btf, acodeN, List.getElem?_toArray, List.getElem?_cons_zero, List.getElem?_cons_succ, aopsN, adrawT, cls, astep, aop, afloat, ev, nth_lst, get_lst, aput, setAt_lst, upd_at, init_zero, init_succ, init_nil, Nat.reduceLT, Nat.reduceEqDiff, reduceIte, abuiltin, alen, Option.map_some, Option.map_none, orElse_some, apure_add, apure_eqlV, eqlVal_str, eqlVal_bool, eqlVal_ptr, eqlVal_slice, eqlVal_int, allT, ↓aop_eqlV, apure_neq, List.map_cons, List.map_nil, List.all_cons, List.all_nil, lit2, lit1, lit0, List.isEmpty_nil, Bool.and_self, Bool.and_true, Bool.true_and, Bool.false_and, Bool.and_false, Bool.not_true, Bool.not_false, Bool.or_true, Bool.true_or, Bool.false_or, Bool.or_false, Bool.false_eq_true, if_true, if_false, List.length_map, beq_self_eq_true, und3, und4, und5, und9, h42, h43, lss64, hlt]
  exact ⟨_, rfl, by simp only [upd_at, Nat.reduceEqDiff, reduceIte]⟩
end
end Go.Am.Seat

/-
  The document's Split, whole (own work).
-/
set_option linter.unusedSimpArgs false
set_option linter.unusedVariables false
namespace Go.Am.Seat
open Go.Proofs Go.Am
set_option maxRecDepth 100000

theorem any_neg {szs : List Int} {i : Nat} {n : Int} (h : szs[i]? = some n) (hn : n < 0) : szs.any (fun n => decide (n < 0)) = true := by
  rw [List.any_eq_true]
  exact ⟨n, List.mem_of_getElem? h, decide_eq_true hn⟩
theorem none_neg {szs : List Int} (h : ∀ (i : Nat) (n : Int), szs[i]? = some n → 0 ≤ n) : szs.any (fun n => decide (n < 0)) = false := by
  rw [List.any_eq_false]
  intro x hx
  obtain ⟨i, hi⟩ := List.getElem?_of_mem hx
  have := h i x hi
  simp
  omega

theorem rsp_loop {self : Self} {nf : Nat} {m : Mem} {s : ByteArray} {szs : List Int} {b o c : Nat} (hL : szs.length ≤ 1000) (hlen : s.data.toList.length ≤ 1000000) (hnf : 1000 < nf)
    (hs : ∀ (i : Nat) (x : Value), (szs.map (Value.int .i64))[i]? = some x → cellAt m b (o + i) = some x)
    {F : Nat → Value} (h0 : F 0 = .string s) (h13 : F 13 = .slice (some ⟨b, o, none⟩) szs.length c) (h14 : F 14 = .int .i64 (szs.length : Nat)) (h15 : F 15 = .int .i64 (0 : Nat)) (h6 : F 6 = .int .i64 (0 : Nat)) :
    ∃ e F', aloop (acodeN E self nf lprsp_0) nf (lst F 61) m = some (e, lst F' 61, m) ∧ ((e = .exit 0 ∧ F' 0 = F 0 ∧ F' 1 = F 1 ∧ (∀ (i : Nat) (n : Int), szs[i]? = some n → 0 ≤ n) ∧ ∃ tot : Nat, F' 6 = .int .i64 (tot : Nat) ∧ TI s.data.toList.length (psum szs szs.length) tot) ∨
      (e = .ret ∧ F' 4 = .slice none 0 0 ∧ F' 5 = .int .i64 2 ∧ szs.any (fun n => decide (n < 0)) = true)) := by
  have hloop := aloop_inv (body := acodeN E self nf lprsp_0) (N := szs.length)
    (I := fun i T m' => ∃ G, T = lst G 61 ∧ m' = m ∧ G 0 = F 0 ∧ G 1 = F 1 ∧ G 13 = .slice (some ⟨b, o, none⟩) szs.length c ∧ G 14 = .int .i64 (szs.length : Nat) ∧ G 15 = .int .i64 (i : Nat) ∧ (∀ (j : Nat) (n : Int), j < i → szs[j]? = some n → 0 ≤ n) ∧
      ∃ tot : Nat, G 6 = .int .i64 (tot : Nat) ∧ TI s.data.toList.length (psum szs i) tot)
    (Q := fun e T m' => ∃ F', T = lst F' 61 ∧ m' = m ∧ ((e = .exit 0 ∧ F' 0 = F 0 ∧ F' 1 = F 1 ∧ (∀ (i : Nat) (n : Int), szs[i]? = some n → 0 ≤ n) ∧ ∃ tot : Nat, F' 6 = .int .i64 (tot : Nat) ∧ TI s.data.toList.length (psum szs szs.length) tot) ∨
      (e = .ret ∧ F' 4 = .slice none 0 0 ∧ F' 5 = .int .i64 2 ∧ szs.any (fun n => decide (n < 0)) = true))) (fun i T m' hi hI => by
      obtain ⟨G, rfl, rfl, g0, g1, g13, g14, g15, gall, tot, g6, gT⟩ := hI
      by_cases hlt : i < szs.length
      · have hsi : szs[i]? = some szs[i] := by simp [hlt]
        have hx := hs i (.int .i64 szs[i]) (by rw [List.getElem?_map, hsi]; rfl)
        by_cases hn : szs[i] < 0
        · right
          obtain ⟨F', hr, f4, f5⟩ := rsp_bad (self := self) (nf := nf) g13 g14 g15 hlt hx hn
          exact ⟨_, _, _, hr, by simp, F', rfl, rfl, .inr ⟨rfl, f4, f5, any_neg hsi hn⟩⟩
        · left
          obtain ⟨F', tn, hr, f0, f1, f13, f14, f15, f6, fT⟩ := rsp_iter (self := self) (nf := nf) gT (g0.trans h0) g13 g14 g15 g6 hlt (by omega) hx (by omega) hlen
          refine ⟨_, _, hr, hlt, F', rfl, rfl, f0.trans g0, f1.trans g1, f13.trans g13, f14.trans g14, f15, fun j n hj h1 => ?_, tn, f6, by rw [psum_step hsi]; exact fT⟩
          by_cases hji : j < i
          · exact gall j n hji h1
          · have : j = i := by omega
            subst this
            rw [hsi] at h1; cases h1
            omega
      · right
        obtain ⟨F', hr, f0, f1, f6⟩ := rsp_last (self := self) (nf := nf) (m := m') g14 g15 (by omega)
        have : i = szs.length := by omega
        subst this
        exact ⟨_, _, _, hr, by simp, F', rfl, rfl, .inl ⟨rfl, f0.trans g0, f1.trans g1, fun j n h1 => gall j n (List.getElem?_eq_some_iff.1 h1).1 h1, tot, f6.trans g6, gT⟩⟩)
  obtain ⟨e, T', m', hr, F', rfl, rfl, hq⟩ := hloop szs.length 0 nf (lst F 61) m (by omega) (by omega) ⟨F, rfl, rfl, rfl, rfl, h13, h14, h15, fun j n hj => by omega, 0, h6, .inl ⟨by rw [psum_zero]; omega, by rw [psum_zero]⟩⟩
  exact ⟨e, F', hr, hq⟩

theorem cellAt_same {m m' : Mem} {b : Nat} (h : m'[b]? = m[b]?) (o : Nat) : cellAt m' b o = cellAt m b o := by
  unfold cellAt look
  rw [h]

theorem rsp2_loop {self : Self} {nf : Nat} {m : Mem} {s : ByteArray} {szs : List Int} {b o c : Nat} (hL : szs.length ≤ 1000) (hlen : s.data.toList.length ≤ 1000000) (hnf : 1000 < nf) (hbm : b < m.length)
    (hs : ∀ (i : Nat) (x : Value), (szs.map (Value.int .i64))[i]? = some x → cellAt m b (o + i) = some x) (hpos : ∀ (i : Nat) (n : Int), szs[i]? = some n → 0 ≤ n) (htot : psum szs szs.length = s.data.toList.length)
    {F : Nat → Value} (h0 : F 0 = .string s) (h41 : F 41 = .slice (some ⟨b, o, none⟩) szs.length c) (h42 : F 42 = .int .i64 (szs.length : Nat)) (h43 : F 43 = .int .i64 (0 : Nat)) (h9 : F 9 = .slice none 0 0) (h10 : F 10 = .int .i64 (0 : Nat)) :
    ∃ F' m', aloop (acodeN E self nf lprsp_1) nf (lst F 61) m = some (.exit 2, lst F' 61, m') ∧ GL m.length m' 9 (F' 9) (((List.range szs.length).map (cutAt s szs)).map Value.string) ∧ m.length ≤ m'.length ∧ ∀ k, k < m.length → m'[k]? = m[k]? := by
  have hloop := aloop_inv (body := acodeN E self nf lprsp_1) (N := szs.length)
    (I := fun i T m' => ∃ G, T = lst G 61 ∧ G 0 = .string s ∧ G 41 = .slice (some ⟨b, o, none⟩) szs.length c ∧ G 42 = .int .i64 (szs.length : Nat) ∧ G 43 = .int .i64 (i : Nat) ∧ G 10 = .int .i64 (psum szs i : Nat) ∧
      GL m.length m' 9 (G 9) (((List.range i).map (cutAt s szs)).map Value.string) ∧ m.length ≤ m'.length ∧ ∀ k, k < m.length → m'[k]? = m[k]?)
    (Q := fun e T m' => e = .exit 2 ∧ ∃ F', T = lst F' 61 ∧ GL m.length m' 9 (F' 9) (((List.range szs.length).map (cutAt s szs)).map Value.string) ∧ m.length ≤ m'.length ∧ ∀ k, k < m.length → m'[k]? = m[k]?) (fun i T m' hi hI => by
      obtain ⟨G, rfl, g0, g41, g42, g43, g10, gS, gle, gfr⟩ := hI
      by_cases hlt : i < szs.length
      · left
        have hsi : szs[i]? = some szs[i] := by simp [hlt]
        have hx := hs i (.int .i64 szs[i]) (by rw [List.getElem?_map, hsi]; rfl)
        rw [← cellAt_same (gfr b hbm)] at hx
        have hn := hpos i _ hsi
        have hps := psum_step hsi
        have hle := psum_le szs (show i + 1 ≤ szs.length by omega)
        obtain ⟨F', m2, hr, f0, f41, f42, f43, f10, fS, fle, ffr⟩ := rsp2_iter (self := self) (nf := nf) g0 g41 g42 g43 g10 hlt (by omega) hx hn hlen (by omega) gS gle (by simp; omega)
        refine ⟨_, _, hr, hlt, F', rfl, f0.trans g0, f41.trans g41, f42.trans g42, f43, by rw [f10, hps], ?_, by omega, fun k hk => by rw [ffr k hk, gfr k hk]⟩
        rw [List.range_succ, List.map_append, List.map_append]
        have : cutAt s szs i = s.extract (psum szs i) (psum szs i + szs[i].toNat) := by unfold cutAt; rw [hps]
        simp only [List.map_cons, List.map_nil, this]
        exact fS
      · right
        obtain ⟨F', hr, f9⟩ := rsp2_last (self := self) (nf := nf) (m := m') g42 g43 (by omega)
        have : i = szs.length := by omega
        subst this
        exact ⟨_, _, _, hr, by simp, rfl, F', rfl, by rw [f9]; exact gS, gle, gfr⟩)
  obtain ⟨e, T', m', hr, rfl, F', rfl, hq⟩ := hloop szs.length 0 nf (lst F 61) m (by omega) (by omega) ⟨F, rfl, h0, h41, h42, h43, by rw [h10, psum_zero], by rw [h9]; exact .inl ⟨rfl, rfl⟩, Nat.le_refl _, fun _ _ => rfl⟩
  exact ⟨F', m', hr, hq⟩

theorem rsp_none {self : Self} {nf : Nat} {m : Mem} (hnf : 0 < nf) {F : Nat → Value} (h14 : F 14 = .int .i64 0) (h15 : F 15 = .int .i64 0) :
    ∃ F', aloop (acodeN E self nf lprsp_0) nf (lst F 61) m = some (.exit 0, lst F' 61, m) ∧ F' 0 = F 0 ∧ F' 1 = F 1 ∧ F' 6 = F 6 := by
  obtain ⟨k, rfl⟩ : ∃ g, nf = g + 1 := ⟨nf - 1, by omega⟩
  obtain ⟨F', hr, f⟩ := rsp_last (self := self) (nf := k + 1) (m := m) (L := 0) (i := 0) h14 h15 (Nat.le_refl _)
  exact ⟨F', by rw [aloop, hr], f⟩
theorem rsp2_none {self : Self} {nf : Nat} {m : Mem} (hnf : 0 < nf) {F : Nat → Value} (h42 : F 42 = .int .i64 0) (h43 : F 43 = .int .i64 0) :
    ∃ F', aloop (acodeN E self nf lprsp_1) nf (lst F 61) m = some (.exit 2, lst F' 61, m) ∧ F' 9 = F 9 := by
  obtain ⟨k, rfl⟩ : ∃ g, nf = g + 1 := ⟨nf - 1, by omega⟩
  obtain ⟨F', hr, f⟩ := rsp2_last (self := self) (nf := k + 1) (m := m) (L := 0) (i := 0) h42 h43 (Nat.le_refl _)
  exact ⟨F', by rw [aloop, hr], f⟩

theorem gtrN (a b : Nat) : decide (((a : Nat) : Int) > ((b : Nat) : Int)) = decide (a > b) := by
  by_cases h : a > b
  · rw [decide_eq_true h]; exact decide_eq_true (by omega)
  · rw [decide_eq_false h]; exact decide_eq_false (by omega)
theorem lssN (a b : Nat) : decide (((a : Nat) : Int) < ((b : Nat) : Int)) = decide (a < b) := by
  by_cases h : a < b
  · rw [decide_eq_true h]; exact decide_eq_true (by omega)
  · rw [decide_eq_false h]; exact decide_eq_false (by omega)

theorem rsp_body {self : Self} {nf : Nat} {m : Mem} {s : ByteArray} {szs : List Int} {vs : Value} (hs : RS m vs (szs.map (Value.int .i64))) (hL : szs.length ≤ 1000) (hlen : s.data.toList.length ≤ 1000000) (hnf : 1000 < nf) :
    ∃ v m', abody E self nf 8 [.string s, vs] m = some (.tuple ⟨[v, .int .i64 (splitE s szs : Nat)]⟩, m') ∧ GL m.length m' 9 v ((splitL s szs).map Value.string) ∧ m.length ≤ m'.length ∧ ∀ k, k < m.length → m'[k]? = m[k]? := by
  rw [abody_eqF (by kernel_rfl) Try.func8 bodyrsp (by kernel_rfl) (Nat.le_of_ble_eq_true rfl)]
  rw [show Try.f8.ntmps = 61 from rfl]
  rcases hs with ⟨hz, rfl⟩ | ⟨b, o, c, rfl, hs⟩
  · have hz : szs = [] := by simpa using hz
    subst hz
    obtain ⟨F', hr, f0, f1, f6⟩ := rsp_none (self := self) (nf := nf) (m := m) (by omega) (F := upd (upd (upd (upd (upd (upd (init [.string s, (.slice none 0 0)]) 4 (.slice none 0 0)) 5 (.int .i64 0)) 6 (.int .i64 0)) 13 (.slice none 0 0)) 14 (.int .i64 0)) 15 (.int .i64 0)) rfl rfl
    have f0 : F' 0 = .string s := f0
    have f1 : F' 1 = .slice none 0 0 := f1
    have f6 : F' 6 = .int .i64 0 := f6
    have q1 : decide ((0 : Int) > ((s.data.toList.length : Nat) : Int)) = false := decide_eq_false (by omega)
    by_cases h0 : s.data.toList.length = 0
    · have he : splitE s [] = 0 := by unfold splitE; rw [h0]; rfl
      have hl : splitL s [] = [] := by unfold splitL; rw [he]; rfl
      have q2 : decide ((0 : Int) < ((s.data.toList.length : Nat) : Int)) = false := decide_eq_false (by omega)
      obtain ⟨G, hr2, g9⟩ := rsp2_none (self := self) (nf := nf) (m := m) (by omega) (F := upd (upd (upd (upd (upd (upd (upd (upd (upd (upd (upd (upd (upd (F') 33 (.int .i64 0)) 34 (.string s)) 35 (.int .i64 ((s.data.toList.length : Nat) : Int))) 36 (.bool false)) 37 (.int .i64 0)) 38 (.string s)) 39 (.int .i64 ((s.data.toList.length : Nat) : Int))) 40 (.bool false)) 9 (.slice none 0 0)) 10 (.int .i64 0)) 41 (.slice none 0 0)) 42 (.int .i64 0)) 43 (.int .i64 0)) rfl rfl
      have g9 : G 9 = .slice none 0 0 := g9
      simp only [ersp_0, ersp_1, ersp_10, ersp_11, ersp_12, ersp_13, ersp_14, ersp_15, ersp_16, ersp_17, ersp_18, ersp_19, ersp_2, ersp_20, ersp_21, ersp_22, ersp_3, ersp_4, ersp_5, ersp_6, ersp_7, ersp_8, ersp_9, lrsp_0, lrsp_1, lrsp_2, lrsp_3, lrsp_4, lrsp_5, lrsp_6, lrsp_7, lrsp_8, lrsp_9, lrsp_10, lrsp_11, lrsp_12, lrsp_13, lrsp_14, lrsp_15, lrsp_16, lrsp_17, lrsp_18, lrsp_19, lrsp_20, lrsp_21, lrsp_22, agd_none, gdAt, gdV_bool, gdV_undef, Try.f8, List.append_eq, List.cons_append, List.nil_append, apure_call1, apure_call2, apure_call3, bft, btf, acodeN, List.getElem?_toArray, List.getElem?_cons_zero, List.getElem?_cons_succ, aopsN, adrawT, cls, astep, aop, afloat, ev, nth_lst, get_lst, aput, setAt_lst, upd_at, init_zero, init_succ, init_nil, Nat.reduceLT, Nat.reduceEqDiff, reduceIte, abuiltin, alen, Option.map_some, Option.map_none, orElse_some, apure_add, apure_eqlV, eqlVal_str, eqlVal_bool, eqlVal_ptr, eqlVal_slice, eqlVal_int, allT, ↓aop_eqlV, apure_neq, List.map_cons, List.map_nil, List.all_cons, List.all_nil, lit2, lit1, lit0, List.isEmpty_nil, Bool.and_self, Bool.and_true, Bool.true_and, Bool.false_and, Bool.and_false, Bool.not_true, Bool.not_false, Bool.or_true, Bool.true_or, Bool.false_or, Bool.or_false, Bool.false_eq_true, if_true, if_false, List.length_map, beq_self_eq_true, und3, und4, und5, und9, lenI, hr, f0, f1, f6, gtr64', q1, lss64, q2, hr2, g9, finish, ares, aresL, ares1, he, hl]
      exact ⟨_, _, rfl, .inl ⟨rfl, rfl⟩, Nat.le_refl _, fun _ _ => rfl⟩
    · have he : splitE s [] = 4 := by
        unfold splitE
        rw [if_neg (by simp), if_neg (by simp [psum]), if_pos (by simp only [psum, List.length_nil, List.take_nil, List.map_nil, List.sum_nil]; omega)]
      have hl : splitL s [] = [] := by unfold splitL; rw [he]; rfl
      have q2 : decide ((0 : Int) < ((s.data.toList.length : Nat) : Int)) = true := decide_eq_true (by omega)
      simp only [ersp_0, ersp_1, ersp_10, ersp_11, ersp_12, ersp_13, ersp_14, ersp_15, ersp_16, ersp_17, ersp_18, ersp_19, ersp_2, ersp_20, ersp_21, ersp_22, ersp_3, ersp_4, ersp_5, ersp_6, ersp_7, ersp_8, ersp_9, lrsp_0, lrsp_1, lrsp_2, lrsp_3, lrsp_4, lrsp_5, lrsp_6, lrsp_7, lrsp_8, lrsp_9, lrsp_10, lrsp_11, lrsp_12, lrsp_13, lrsp_14, lrsp_15, lrsp_16, lrsp_17, lrsp_18, lrsp_19, lrsp_20, lrsp_21, lrsp_22, agd_none, gdAt, gdV_bool, gdV_undef, Try.f8, List.append_eq, List.cons_append, List.nil_append, apure_call1, apure_call2, apure_call3, bft, btf, acodeN, List.getElem?_toArray, List.getElem?_cons_zero, List.getElem?_cons_succ, aopsN, adrawT, cls, astep, aop, afloat, ev, nth_lst, get_lst, aput, setAt_lst, upd_at, init_zero, init_succ, init_nil, Nat.reduceLT, Nat.reduceEqDiff, reduceIte, abuiltin, alen, Option.map_some, Option.map_none, orElse_some, apure_add, apure_eqlV, eqlVal_str, eqlVal_bool, eqlVal_ptr, eqlVal_slice, eqlVal_int, allT, ↓aop_eqlV, apure_neq, List.map_cons, List.map_nil, List.all_cons, List.all_nil, lit2, lit1, lit0, List.isEmpty_nil, Bool.and_self, Bool.and_true, Bool.true_and, Bool.false_and, Bool.and_false, Bool.not_true, Bool.not_false, Bool.or_true, Bool.true_or, Bool.false_or, Bool.or_false, Bool.false_eq_true, if_true, if_false, List.length_map, beq_self_eq_true, und3, und4, und5, und9, lenI, hr, f0, f1, f6, gtr64', q1, lss64, q2, finish, ares, aresL, ares1, he, hl]
      exact ⟨_, _, rfl, .inl ⟨rfl, rfl⟩, Nat.le_refl _, fun _ _ => rfl⟩
  · rw [List.length_map]
    obtain ⟨e, F', hr, hq⟩ := rsp_loop (self := self) (nf := nf) (m := m) (c := c) hL hlen hnf hs (F := upd (upd (upd (upd (upd (upd (init [.string s, (.slice (some ⟨b, o, none⟩) szs.length c)]) 4 (.slice none 0 0)) 5 (.int .i64 0)) 6 (.int .i64 0)) 13 (.slice (some ⟨b, o, none⟩) szs.length c)) 14 (.int .i64 ((szs.length : Nat) : Int))) 15 (.int .i64 0)) rfl rfl rfl rfl rfl
    rcases hq with ⟨rfl, f0, f1, hpos, tot, f6, hT⟩ | ⟨rfl, f4, f5, hneg⟩
    · have f0 : F' 0 = .string s := f0
      have f1 : F' 1 = (.slice (some ⟨b, o, none⟩) szs.length c) := f1
      have hnn := none_neg hpos
      by_cases hgt : psum szs szs.length > s.data.toList.length
      · have ht : tot > s.data.toList.length := by unfold TI at hT; omega
        have he : splitE s szs = 3 := by unfold splitE; rw [hnn, if_neg (by simp), if_pos hgt]
        have hl : splitL s szs = [] := by unfold splitL; rw [he]; rfl
        have q1 : decide (((tot : Nat) : Int) > ((s.data.toList.length : Nat) : Int)) = true := decide_eq_true (by omega)
        simp only [ersp_0, ersp_1, ersp_10, ersp_11, ersp_12, ersp_13, ersp_14, ersp_15, ersp_16, ersp_17, ersp_18, ersp_19, ersp_2, ersp_20, ersp_21, ersp_22, ersp_3, ersp_4, ersp_5, ersp_6, ersp_7, ersp_8, ersp_9, lrsp_0, lrsp_1, lrsp_2, lrsp_3, lrsp_4, lrsp_5, lrsp_6, lrsp_7, lrsp_8, lrsp_9, lrsp_10, lrsp_11, lrsp_12, lrsp_13, lrsp_14, lrsp_15, lrsp_16, lrsp_17, lrsp_18, lrsp_19, lrsp_20, lrsp_21, lrsp_22, agd_none, gdAt, gdV_bool, gdV_undef, Try.f8, List.append_eq, List.cons_append, List.nil_append, apure_call1, apure_call2, apure_call3, bft, btf, acodeN, List.getElem?_toArray, List.getElem?_cons_zero, List.getElem?_cons_succ, aopsN, adrawT, cls, astep, aop, afloat, ev, nth_lst, get_lst, aput, setAt_lst, upd_at, init_zero, init_succ, init_nil, Nat.reduceLT, Nat.reduceEqDiff, reduceIte, abuiltin, alen, Option.map_some, Option.map_none, orElse_some, apure_add, apure_eqlV, eqlVal_str, eqlVal_bool, eqlVal_ptr, eqlVal_slice, eqlVal_int, allT, ↓aop_eqlV, apure_neq, List.map_cons, List.map_nil, List.all_cons, List.all_nil, lit2, lit1, lit0, List.isEmpty_nil, Bool.and_self, Bool.and_true, Bool.true_and, Bool.false_and, Bool.and_false, Bool.not_true, Bool.not_false, Bool.or_true, Bool.true_or, Bool.false_or, Bool.or_false, Bool.false_eq_true, if_true, if_false, List.length_map, beq_self_eq_true, und3, und4, und5, und9, undIS, hr, f0, f1, f6, gtr64', q1, finish, ares, aresL, ares1, he, hl]
        exact ⟨_, _, rfl, .inl ⟨rfl, rfl⟩, Nat.le_refl _, fun _ _ => rfl⟩
      · have ht : tot = psum szs szs.length := by unfold TI at hT; omega
        have q1 : decide (((tot : Nat) : Int) > ((s.data.toList.length : Nat) : Int)) = false := decide_eq_false (by omega)
        by_cases hlt : psum szs szs.length < s.data.toList.length
        · have he : splitE s szs = 4 := by unfold splitE; rw [hnn, if_neg (by simp), if_neg hgt, if_pos hlt]
          have hl : splitL s szs = [] := by unfold splitL; rw [he]; rfl
          have q2 : decide (((tot : Nat) : Int) < ((s.data.toList.length : Nat) : Int)) = true := decide_eq_true (by omega)
          simp only [ersp_0, ersp_1, ersp_10, ersp_11, ersp_12, ersp_13, ersp_14, ersp_15, ersp_16, ersp_17, ersp_18, ersp_19, ersp_2, ersp_20, ersp_21, ersp_22, ersp_3, ersp_4, ersp_5, ersp_6, ersp_7, ersp_8, ersp_9, lrsp_0, lrsp_1, lrsp_2, lrsp_3, lrsp_4, lrsp_5, lrsp_6, lrsp_7, lrsp_8, lrsp_9, lrsp_10, lrsp_11, lrsp_12, lrsp_13, lrsp_14, lrsp_15, lrsp_16, lrsp_17, lrsp_18, lrsp_19, lrsp_20, lrsp_21, lrsp_22, agd_none, gdAt, gdV_bool, gdV_undef, Try.f8, List.append_eq, List.cons_append, List.nil_append, apure_call1, apure_call2, apure_call3, bft, btf, acodeN, List.getElem?_toArray, List.getElem?_cons_zero, List.getElem?_cons_succ, aopsN, adrawT, cls, astep, aop, afloat, ev, nth_lst, get_lst, aput, setAt_lst, upd_at, init_zero, init_succ, init_nil, Nat.reduceLT, Nat.reduceEqDiff, reduceIte, abuiltin, alen, Option.map_some, Option.map_none, orElse_some, apure_add, apure_eqlV, eqlVal_str, eqlVal_bool, eqlVal_ptr, eqlVal_slice, eqlVal_int, allT, ↓aop_eqlV, apure_neq, List.map_cons, List.map_nil, List.all_cons, List.all_nil, lit2, lit1, lit0, List.isEmpty_nil, Bool.and_self, Bool.and_true, Bool.true_and, Bool.false_and, Bool.and_false, Bool.not_true, Bool.not_false, Bool.or_true, Bool.true_or, Bool.false_or, Bool.or_false, Bool.false_eq_true, if_true, if_false, List.length_map, beq_self_eq_true, und3, und4, und5, und9, undIS, hr, f0, f1, f6, gtr64', q1, lss64, q2, finish, ares, aresL, ares1, he, hl]
          exact ⟨_, _, rfl, .inl ⟨rfl, rfl⟩, Nat.le_refl _, fun _ _ => rfl⟩
        · have he : splitE s szs = 0 := by unfold splitE; rw [hnn, if_neg (by simp), if_neg hgt, if_neg hlt]
          have hl : splitL s szs = (List.range szs.length).map (cutAt s szs) := by unfold splitL; rw [if_pos he]
          have q2 : decide (((tot : Nat) : Int) < ((s.data.toList.length : Nat) : Int)) = false := decide_eq_false (by omega)
          by_cases h0 : szs.length = 0
          · have hz : szs = [] := List.eq_nil_of_length_eq_zero h0
            subst hz
            obtain ⟨G, hr2, g9⟩ := rsp2_none (self := self) (nf := nf) (m := m) (by omega) (F := upd (upd (upd (upd (upd (upd (upd (upd (upd (upd (upd (upd (upd (F') 33 (.int .i64 ((tot : Nat) : Int))) 34 (.string s)) 35 (.int .i64 ((s.data.toList.length : Nat) : Int))) 36 (.bool false)) 37 (.int .i64 ((tot : Nat) : Int))) 38 (.string s)) 39 (.int .i64 ((s.data.toList.length : Nat) : Int))) 40 (.bool false)) 9 (.slice none 0 0)) 10 (.int .i64 0)) 41 (.slice (some ⟨b, o, none⟩) 0 c)) 42 (.int .i64 ((0 : Nat) : Int))) 43 (.int .i64 0)) rfl rfl
            have g9 : G 9 = .slice none 0 0 := g9
            simp only [List.length_nil] at hr f1
            simp only [ersp_0, ersp_1, ersp_10, ersp_11, ersp_12, ersp_13, ersp_14, ersp_15, ersp_16, ersp_17, ersp_18, ersp_19, ersp_2, ersp_20, ersp_21, ersp_22, ersp_3, ersp_4, ersp_5, ersp_6, ersp_7, ersp_8, ersp_9, lrsp_0, lrsp_1, lrsp_2, lrsp_3, lrsp_4, lrsp_5, lrsp_6, lrsp_7, lrsp_8, lrsp_9, lrsp_10, lrsp_11, lrsp_12, lrsp_13, lrsp_14, lrsp_15, lrsp_16, lrsp_17, lrsp_18, lrsp_19, lrsp_20, lrsp_21, lrsp_22, agd_none, gdAt, gdV_bool, gdV_undef, Try.f8, List.append_eq, List.cons_append, List.nil_append, apure_call1, apure_call2, apure_call3, bft, btf, acodeN, List.getElem?_toArray, List.getElem?_cons_zero, List.getElem?_cons_succ, aopsN, adrawT, cls, astep, aop, afloat, ev, nth_lst, get_lst, aput, setAt_lst, upd_at, init_zero, init_succ, init_nil, Nat.reduceLT, Nat.reduceEqDiff, reduceIte, abuiltin, alen, Option.map_some, Option.map_none, orElse_some, apure_add, apure_eqlV, eqlVal_str, eqlVal_bool, eqlVal_ptr, eqlVal_slice, eqlVal_int, allT, ↓aop_eqlV, apure_neq, List.map_cons, List.map_nil, List.all_cons, List.all_nil, lit2, lit1, lit0, List.isEmpty_nil, Bool.and_self, Bool.and_true, Bool.true_and, Bool.false_and, Bool.and_false, Bool.not_true, Bool.not_false, Bool.or_true, Bool.true_or, Bool.false_or, Bool.or_false, Bool.false_eq_true, if_true, if_false, List.length_map, beq_self_eq_true, und3, und4, und5, und9, undIS, hr, f0, f1, f6, gtr64', q1, lss64, q2, List.length_nil, hr2, g9, finish, ares, aresL, ares1, he, hl]
            exact ⟨_, _, rfl, .inl ⟨rfl, rfl⟩, Nat.le_refl _, fun _ _ => rfl⟩
          · have hbm : b < m.length := by
              have hsi : szs[0]? = some (szs[0]'(by omega)) := by simp
              have hx := hs 0 (.int .i64 (szs[0]'(by omega))) (by rw [List.getElem?_map, hsi]; rfl)
              apply Classical.byContradiction
              intro hno
              unfold cellAt look at hx
              rw [List.getElem?_eq_none (by omega)] at hx
              cases hx
            obtain ⟨G, m', hr2, gS, gle, gfr⟩ := rsp2_loop (self := self) (nf := nf) (m := m) (c := c) hL hlen hnf hbm hs hpos (by omega) (F := upd (upd (upd (upd (upd (upd (upd (upd (upd (upd (upd (upd (upd (F') 33 (.int .i64 ((tot : Nat) : Int))) 34 (.string s)) 35 (.int .i64 ((s.data.toList.length : Nat) : Int))) 36 (.bool false)) 37 (.int .i64 ((tot : Nat) : Int))) 38 (.string s)) 39 (.int .i64 ((s.data.toList.length : Nat) : Int))) 40 (.bool false)) 9 (.slice none 0 0)) 10 (.int .i64 0)) 41 (.slice (some ⟨b, o, none⟩) szs.length c)) 42 (.int .i64 ((szs.length : Nat) : Int))) 43 (.int .i64 0)) (h0 := f0) (h41 := rfl) (h42 := rfl) (h43 := rfl) (h9 := rfl) (h10 := rfl)
            simp only [ersp_0, ersp_1, ersp_10, ersp_11, ersp_12, ersp_13, ersp_14, ersp_15, ersp_16, ersp_17, ersp_18, ersp_19, ersp_2, ersp_20, ersp_21, ersp_22, ersp_3, ersp_4, ersp_5, ersp_6, ersp_7, ersp_8, ersp_9, lrsp_0, lrsp_1, lrsp_2, lrsp_3, lrsp_4, lrsp_5, lrsp_6, lrsp_7, lrsp_8, lrsp_9, lrsp_10, lrsp_11, lrsp_12, lrsp_13, lrsp_14, lrsp_15, lrsp_16, lrsp_17, lrsp_18, lrsp_19, lrsp_20, lrsp_21, lrsp_22, agd_none, gdAt, gdV_bool, gdV_undef, Try.f8, List.append_eq, List.cons_append, List.nil_append, apure_call1, apure_call2, apure_call3, bft, btf, acodeN, List.getElem?_toArray, List.getElem?_cons_zero, List.getElem?_cons_succ, aopsN, adrawT, cls, astep, aop, afloat, ev, nth_lst, get_lst, aput, setAt_lst, upd_at, init_zero, init_succ, init_nil, Nat.reduceLT, Nat.reduceEqDiff, reduceIte, abuiltin, alen, Option.map_some, Option.map_none, orElse_some, apure_add, apure_eqlV, eqlVal_str, eqlVal_bool, eqlVal_ptr, eqlVal_slice, eqlVal_int, allT, ↓aop_eqlV, apure_neq, List.map_cons, List.map_nil, List.all_cons, List.all_nil, lit2, lit1, lit0, List.isEmpty_nil, Bool.and_self, Bool.and_true, Bool.true_and, Bool.false_and, Bool.and_false, Bool.not_true, Bool.not_false, Bool.or_true, Bool.true_or, Bool.false_or, Bool.or_false, Bool.false_eq_true, if_true, if_false, List.length_map, beq_self_eq_true, und3, und4, und5, und9, undIS, hr, f0, f1, f6, gtr64', q1, lss64, q2, hr2, finish, ares, aresL, ares1, he, hl]
            exact ⟨_, _, rfl, gS, gle, gfr⟩
    · have he : splitE s szs = 2 := by unfold splitE; rw [if_pos hneg]
      have hl : splitL s szs = [] := by unfold splitL; rw [he]; rfl
      simp only [ersp_0, ersp_1, ersp_10, ersp_11, ersp_12, ersp_13, ersp_14, ersp_15, ersp_16, ersp_17, ersp_18, ersp_19, ersp_2, ersp_20, ersp_21, ersp_22, ersp_3, ersp_4, ersp_5, ersp_6, ersp_7, ersp_8, ersp_9, lrsp_0, lrsp_1, lrsp_2, lrsp_3, lrsp_4, lrsp_5, lrsp_6, lrsp_7, lrsp_8, lrsp_9, lrsp_10, lrsp_11, lrsp_12, lrsp_13, lrsp_14, lrsp_15, lrsp_16, lrsp_17, lrsp_18, lrsp_19, lrsp_20, lrsp_21, lrsp_22, agd_none, gdAt, gdV_bool, gdV_undef, Try.f8, List.append_eq, List.cons_append, List.nil_append, apure_call1, apure_call2, apure_call3, bft, btf, acodeN, List.getElem?_toArray, List.getElem?_cons_zero, List.getElem?_cons_succ, aopsN, adrawT, cls, astep, aop, afloat, ev, nth_lst, get_lst, aput, setAt_lst, upd_at, init_zero, init_succ, init_nil, Nat.reduceLT, Nat.reduceEqDiff, reduceIte, abuiltin, alen, Option.map_some, Option.map_none, orElse_some, apure_add, apure_eqlV, eqlVal_str, eqlVal_bool, eqlVal_ptr, eqlVal_slice, eqlVal_int, allT, ↓aop_eqlV, apure_neq, List.map_cons, List.map_nil, List.all_cons, List.all_nil, lit2, lit1, lit0, List.isEmpty_nil, Bool.and_self, Bool.and_true, Bool.true_and, Bool.false_and, Bool.and_false, Bool.not_true, Bool.not_false, Bool.or_true, Bool.true_or, Bool.false_or, Bool.or_false, Bool.false_eq_true, if_true, if_false, List.length_map, beq_self_eq_true, und3, und4, und5, und9, undIS, hr, f4, f5, finish, ares, aresL, ares1, he, hl]
      exact ⟨_, _, rfl, .inl ⟨rfl, rfl⟩, Nat.le_refl _, fun _ _ => rfl⟩
end Go.Am.Seat

/-
  The abstract memory at a law's start: tables that are laid, and package variables of which nothing is said (own work; nothing of a dump).
-/
set_option linter.unusedSimpArgs false
set_option linter.unusedVariables false
namespace Go.Am
noncomputable section

def ren0 (P : Program) (m : Mem) : Ren := fun k => match m[k]? with
  | some (.tab e cs) => some ⟨k, cs.length, ((P.info? e).map (·.size)).getD 0⟩
  | some _ => some ⟨k, 0, 0⟩
  | none => none

/-- What is asked of a block. -/
def BlkAt (P : Program) (W : World) (k : Nat) : Blk → Prop
  | .dead => True
  | .tab e cs => W.heap[k]? = some (.cells ⟨cs⟩ e (0, 0)) ∧ (P.info? e).isSome = true ∧ cs.all lit0 = true
  | .row .. => False

theorem mr_tabs {P : Program} {m : Mem} {W : World} (hG : P.globals.size ≤ m.length) (hsize : m.length ≤ W.heap.size) (hb : ∀ k b, m[k]? = some b → BlkAt P W k b) : MR P (ren0 P m) m W := by
  have hr : ∀ k x, ren0 P m k = some x → k < m.length ∧ x.r = k := by
    intro k x h
    unfold ren0 at h
    cases hm : m[k]? with
    | none => rw [hm] at h; cases h
    | some b =>
      have hk : k < m.length := (List.getElem?_eq_some_iff.1 hm).1
      rw [hm] at h
      cases b <;> (cases h; exact ⟨hk, rfl⟩)
  have hs : ∀ k, k < m.length → ∃ x, ren0 P m k = some x ∧ x.r = k := by
    intro k hk
    have hm : m[k]? = some m[k] := by simp [hk]
    cases hq : m[k] with
    | dead => exact ⟨_, by unfold ren0; rw [hm, hq], rfl⟩
    | row ro e cs => exact ⟨_, by unfold ren0; rw [hm, hq], rfl⟩
    | tab e cs => exact ⟨_, by unfold ren0; rw [hm, hq], rfl⟩
  have hl : ∀ k ro e cs, look m k = some (ro, e, cs) → m[k]? = some (.tab e cs) := by
    intro k ro e cs h
    unfold look at h
    split at h
    · rename_i b hm
      have := hb k b hm
      cases b with
      | dead => simp [Blk.cells?] at h
      | row => exact absurd this id
      | tab e' cs' =>
        simp [Blk.cells?] at h
        obtain ⟨_, rfl, rfl⟩ := h
        exact hm
    · cases h
  refine ⟨fun k hk => ?_, fun k x h => ?_, fun g hg => hs g (by omega), fun k ro e cs h => ?_, fun k e cs k' ro' e' cs' x x' h => ?_, fun k e cs h => ?_⟩
  · unfold ren0
    rw [List.getElem?_eq_none hk]
  · obtain ⟨h1, h2⟩ := hr k x h
    omega
  · have hm := hl k ro e cs h
    obtain ⟨h1, h2, h3⟩ := hb k _ hm
    refine ⟨⟨k, cs.length, ((P.info? e).map (·.size)).getD 0⟩, ⟨cs⟩, (0, 0), by unfold ren0; rw [hm], h1, rfl, Nat.le_refl _, fun i u hu => ⟨u, by simpa using hu, .lit ?_⟩, fun _ => loose_zero _, ?_⟩
    · exact lit2_of_lit1 (lit1_of_lit0 (List.all_eq_true.1 h3 u (List.mem_of_getElem? hu)))
    · cases hi : P.info? e with
      | none => rw [hi] at h2; cases h2
      | some i => rfl
  · exact absurd (hb k _ h) id
  · obtain ⟨_, _, h3⟩ := hb k _ h
    intro v hv
    exact List.all_eq_true.1 h3 v hv

/-- A package variable's block. -/
theorem shaped_at {P : Program} {W : World} (h : W.ShapedOpen P) {g : Nat} {t : TypeId} (hg : g < P.globals.size) (h0 : (((begin P (fun _ _ => 0) default).world.heap[g]?).bind Obj.row?).map (·.2) = some t) :
    ∃ cs, W.heap[g]? = some (.cells cs t (0, 0)) := by
  obtain ⟨⟨z, t'⟩, h1, h2⟩ := Option.map_eq_some_iff.1 h0
  simp only at h2
  subst h2
  obtain ⟨cs, hc, _⟩ := h.1 g z t' hg h1
  exact ⟨cs, hc⟩

theorem tab_at {P : Program} {W : World} {name : String} {k : IntKind} {zs : List Int} {g : Nat} {t : TypeId} {cs : Array Value} (hg : P.globalNamed name = some g) (hc : W.heap[g]? = some (.cells cs t (0, 0))) (h : Lib.TabIs P W name k zs) :
    W.heap[g]? = some (.cells ⟨zs.map (.int k)⟩ t (0, 0)) := by
  unfold Lib.TabIs World.var? at h
  rw [hg] at h
  simp only [Option.bind_some, hc] at h
  cases h
  exact hc

theorem laid_tail {P : Program} {x : String × DataW Unit} {r : List (String × DataW Unit)} {w : World} (h : laidMet P (x :: r) w) : laidMet P r w := by
  obtain ⟨ps, hv, hnd, hrows⟩ := h
  obtain ⟨n, d⟩ := x
  obtain ⟨g, t, cs, fuel, p, q, _, _, _, _, hq, rfl⟩ := hv
  exact ⟨q, hq, List.Nodup.sublist (List.sublist_append_right _ _) hnd, fun b off hm => hrows b off (List.mem_append_right _ hm)⟩

/-- How a law's call ends, seen from outside: what was there stands as it stood. -/
theorem below_of_ends {P : Program} {ρ : Ren} {m m1 : Mem} {w w1 : World} {v : Value} {e : Ending} (hm : ∀ (k : Nat) (e : TypeId) (cs : List Value), m[k]? ≠ some (Blk.row false e cs)) (hv : lit2 v = true) (h : Ends P ρ m w v m1 e w1) : e = .returned v ∧ Go.RowKit.Below w.heap.size w w1 := by
  obtain ⟨v', ρ1, rfl, hvr, _, hx⟩ := h
  refine ⟨?_, ⟨hx.os, hx.tape, hx.output, hx.size, fun r hr => hx.kept r hr fun k e cs _ hk _ => absurd hk (hm k e cs)⟩⟩
  rw [hvr.eq_of_lit2 hv]
end
end Go.Am
