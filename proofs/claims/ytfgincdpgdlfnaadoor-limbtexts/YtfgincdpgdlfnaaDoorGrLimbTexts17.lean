/-
  Texts of my own, put together: KW1, KW2, KW3, KW4, KW5, KW6, KWS, KW7, Y1, PA, PB.
-/
import Derived.Test.YtfgincdpgdlfnaaDoorGrLimbTexts16
import Derived.Test.YtfgincdpgdlfnaaDoorGrLimbTexts8
import Derived.Defers
import Derived.Recover
set_option linter.unusedSimpArgs false
set_option linter.unusedVariables false
set_option maxRecDepth 100000
namespace Go.Am.Seat
open Go.Proofs Go.Am Go.Am.Num Go.Am.Kn
def wN (x : Nat) (j : Nat) : Nat := x / 18446744073709551616 ^ j % 18446744073709551616
theorem wN_lt (x j : Nat) : wN x j < 18446744073709551616 := Nat.mod_lt _ (by decide)
theorem vN_wN (x : Nat) : ∀ n, vN (wN x) n = x % 18446744073709551616 ^ n
  | 0 => by rw [vN, Nat.pow_zero, Nat.mod_one]
  | n + 1 => by rw [vN, vN_wN x n, wN, Nat.pow_succ, Nat.mod_mul]
theorem vN_inj {w v : Nat → Nat} (hw : ∀ j, w j < 18446744073709551616) (hv : ∀ j, v j < 18446744073709551616) : ∀ n, vN w n = vN v n → ∀ j, j < n → w j = v j
  | 0, _, j, h => absurd h (Nat.not_lt_zero j)
  | n + 1, h, j, hj => by
    rw [vN, vN] at h
    have h1 := vN_lt hw n
    have h2 := vN_lt hv n
    have hp : 0 < 18446744073709551616 ^ n := Nat.pow_pos (by decide)
    have e : vN w n = vN v n := by
      have a1 := Nat.add_mul_mod_self_left (vN w n) (18446744073709551616 ^ n) (w n)
      have a2 := Nat.add_mul_mod_self_left (vN v n) (18446744073709551616 ^ n) (v n)
      rw [h, a2, Nat.mod_eq_of_lt h1, Nat.mod_eq_of_lt h2] at a1
      exact a1.symm
    rcases Nat.lt_or_ge j n with h3 | h3
    · exact vN_inj hw hv n e j h3
    · have : j = n := by omega
      subst this
      rw [e] at h
      exact Nat.eq_of_mul_eq_mul_left hp (Nat.add_left_cancel h)
def W8 : Nat := 18446744073709551616 ^ 8
theorem W8_pos : 0 < W8 := Nat.pow_pos (by decide)
abbrev wd (x : Nat) : Value := wide (wN x)
theorem wide_ext {w v : Nat → Nat} (h : ∀ j, j < 8 → w j = v j) : wide w = wide v := by
  unfold wide rowOf
  congr 2
  apply List.map_congr_left
  intro j hj
  rw [h j (List.mem_range.1 hj)]
theorem wide_num {w : Nat → Nat} (hw : ∀ j, w j < 18446744073709551616) : wide w = wd (vN w 8) := wide_ext (vN_inj hw (wN_lt _) 8 (by rw [vN_wN, Nat.mod_eq_of_lt (vN_lt hw 8)]))
theorem vN_wN8 {x : Nat} (hx : x < W8) : vN (wN x) 8 = x := by rw [vN_wN]; exact Nat.mod_eq_of_lt hx
theorem wN_zero : wN 0 = fun _ => 0 := funext fun j => by unfold wN; rw [Nat.zero_div]
theorem wd_zero : wd 0 = wide fun _ => 0 := by unfold wd; rw [wN_zero]
theorem wd_small {x : Nat} (hx : x < 18446744073709551616) : wd x = wide fun j => if j = 0 then x else 0 := wide_ext fun j hj => by
  unfold wN
  by_cases h : j = 0
  · rw [if_pos h, h, Nat.pow_zero, Nat.div_one, Nat.mod_eq_of_lt hx]
  · rw [if_neg h]
    have h1 : 18446744073709551616 ^ 1 ≤ 18446744073709551616 ^ j := Nat.pow_le_pow_right (by decide) (by omega)
    rw [Nat.pow_one] at h1
    rw [Nat.div_eq_of_lt (Nat.lt_of_lt_of_le hx h1)]
theorem all_wN {x y : Nat} (hx : x < W8) (hy : y < W8) : ((List.range 8).all fun j => ((wN x j : Nat) : Int) == ((wN y j : Nat) : Int)) = decide (x = y) := by
  rw [Bool.eq_iff_iff, List.all_eq_true, decide_eq_true_eq]
  constructor
  · intro h
    have e : vN (wN x) 8 = vN (wN y) 8 := vN_ext fun j hj => by
      have := h j (List.mem_range.2 hj)
      simp at this
      omega
    rw [vN_wN8 hx, vN_wN8 hy] at e
    exact e
  · intro h j _
    rw [h]
    simp
theorem eqlWd {x y : Nat} {a b : Operand} (hx : x < W8) (hy : y < W8) : eqlVal E.P 24 a b (wd x) (wd y) = some (.bool (decide (x = y))) := by rw [eql24, all_wN hx hy]
theorem eqlWd0 {x : Nat} {a b : Operand} (hx : x < W8) : eqlVal E.P 24 a b (wd x) (wide fun _ => 0) = some (.bool (decide (x = 0))) := by rw [← wd_zero]; exact eqlWd hx W8_pos
theorem lit_wd (x : Nat) : lit2 (wd x) = true := by
  show (rowOf (wN x)).all lit0 = true
  rw [List.all_eq_true]
  intro v hv
  unfold rowOf at hv
  obtain ⟨j, _, rfl⟩ := List.mem_map.1 hv
  rfl
theorem Uses.num {w : Nat → Nat} {n : Nat} (h : Uses w n) : vN w 8 = vN w n := by
  obtain ⟨h1, h2, _⟩ := h
  have := vN_zero (w := w) (n := n) (8 - n) fun j a b => h2 j a (by omega)
  rw [show n + (8 - n) = 8 by omega] at this
  exact this
def CDw (self : Self) : Prop := ∀ x d, x < W8 → 0 < d → d < 18446744073709551616 → Ans self 22 [wd x, U d] (.tuple ⟨[wd (x / d), U (x % d)]⟩)
def COfW (self : Self) : Prop := ∀ x, x < 18446744073709551616 → Ans self 14 [U x] (wd x)
end Go.Am.Seat
namespace Go.Am.Seat
open Go.Proofs Go.Am Go.Am.Num Go.Am.Kn
section
variable {self : Self} {nf : Nat} {m : Mem} {F : Nat → Value} {w v o l : Nat → Nat} {p q r s x y n : Nat}
structure Four (m M : Mem) (w v o l : Nat → Nat) : Prop where
  len : M.length = m.length + 4
  p : M[m.length]? = some (.row false 24 (rowOf w))
  q : M[m.length + 1]? = some (.row false 24 (rowOf v))
  r : M[m.length + 2]? = some (.row false 24 (rowOf o))
  s : M[m.length + 3]? = some (.row false 24 (rowOf l))
theorem four (m : Mem) (w v : Nat → Nat) : Four m (m ++ [Blk.row false 24 (rowOf w)] ++ [Blk.row false 24 (rowOf v)] ++ [.row false 24 (rowOf fun _ => 0)] ++ [.row false 24 (rowOf fun _ => 0)]) w v (fun _ => 0) (fun _ => 0) where
  len := by simp
  p := by rw [List.getElem?_append_left (by simp <;> omega), List.getElem?_append_left (by simp <;> omega), List.getElem?_append_left (by simp), List.getElem?_append_right (by simp)]; simp
  q := by rw [List.getElem?_append_left (by simp <;> omega), List.getElem?_append_left (by simp), List.getElem?_append_right (by simp)]; simp
  r := by rw [List.getElem?_append_left (by simp), List.getElem?_append_right (by simp)]; simp
  s := by rw [List.getElem?_append_right (by simp)]; simp
theorem load24s {M : Mem} {k : Nat} {w : Nat → Nat} {e : TypeId} (h : M[k]? = some (.row false e (rowOf w))) : aload E.P 24 (.pointer (some ⟨k, 0, none⟩)) (M.map sealed) = some (wide w) := load24 (ro := true) (e := e) (by rw [List.getElem?_map, h]; rfl)
end
end Go.Am.Seat
namespace Go.Am.Seat
open Go.Proofs Go.Am Go.Am.Num Go.Am.Kn
section
variable {self : Self} {nf : Nat} {m m' : Mem} {F : Nat → Value} {p q r s k c a b : Nat} {w v o : Nat → Nat} {be be' : TypeId} {id : FuncId}
end
end Go.Am.Seat
namespace Go.Am.Seat
open Go.Proofs Go.Am Go.Am.Num Go.Am.Kn
section
variable {w v : Nat → Nat}
end
section
variable {self : Self} {nf : Nat} {m m' : Mem} {F : Nat → Value} {p q r s c : Nat} {w v o : Nat → Nat}
end
end Go.Am.Seat
namespace Go.Am.Seat
open Go.Proofs Go.Am Go.Am.Num Go.Am.Kn
def CMs (self : Self) : Prop := ∀ x y a c, x < 18446744073709551616 → y < 18446744073709551616 → a < 18446744073709551616 → c < 18446744073709551616 → Ans self 27 [U x, U y, U a, U c] (pair64 ((x * y + a + c) % 18446744073709551616) ((x * y + a + c) / 18446744073709551616))
section
variable {self : Self} {nf : Nat} {m m' M : Mem} {F : Nat → Value} {p q r s t n u i j k c : Nat} {w v o R R0 : Nat → Nat} {be be' : TypeId}
end
end Go.Am.Seat
namespace Go.Am.Seat
open Go.Proofs Go.Am Go.Am.Num Go.Am.Kn
theorem putW_lt {R : Nat → Nat} {k x : Nat} (h : ∀ j, R j < 18446744073709551616) (hx : x < 18446744073709551616) (j : Nat) : putW R k x j < 18446744073709551616 := by
  unfold putW
  split
  · exact hx
  · exact h j
section
variable {self : Self} {nf : Nat} {m m' M : Mem} {F : Nat → Value} {p q r s t n u i j k c : Nat} {w v o R R0 : Nat → Nat} {be be' : TypeId}
end
end Go.Am.Seat
namespace Go.Am.Seat
open Go.Proofs Go.Am
noncomputable def rwof_0 : Array Oper := match Tryd.f14.body with
  | some (.seq (.region _ o _) _) => o
  | _ => #[]
noncomputable def rwof_1 : Array Oper := match Tryd.f14.body with
  | some (.seq _ (.seq (.region _ o _) _)) => o
  | _ => #[]
theorem bodywof : Tryd.f14.body = some (.seq (.region 0 rwof_0 false) (.seq (.region 1 rwof_1 false) .ret)) := rfl
end Go.Am.Seat
namespace Go.Am.Seat
open Go.Proofs Go.Am Go.Am.Num Go.Am.Kn
theorem owof_0 : rwof_0.toList = [⟨some 2, .alloc 24, 0, "limb.go:30", #[], none⟩] := rfl
theorem owof_1 : rwof_1.toList = [⟨some 3, .move (.tmp 0), 22, "limb.go:30", #[], none⟩, ⟨some 4, .build 24 #[(0, .tmp 3)], 24, "limb.go:30", #[eD 0], none⟩, ⟨none, .store 24 (.tmp 2) (.tmp 4), 0, "limb.go:30", #[eD 1, eP 0, eP 1], none⟩] := rfl
noncomputable def apB1 (P : Program) (t ty : TypeId) (a : Value) : Option Value := apure P [a] { dst := none, op := .build t #[(0, .tmp 0)], type := ty, pos := "", after := #[], guard := none }
theorem apure_build1 {P : Program} {T : List Value} {t ty : TypeId} {a : Nat} {pos : String} {af : Array Edge} {gu : Option (Nat × Bool)} {dd : Option Tmp} :
    apure P T { dst := dd, op := .build t #[(0, .tmp a)], type := ty, pos := pos, after := af, guard := gu } = apB1 P t ty (nth T a) := by
  unfold apB1 apure
  simp [Op.operands, execOp, ev, nth_zero, nth_succ]
theorem abuildOf (x : Nat) : apB1 E.P 24 24 (U x) = some (wide fun j => if j = 0 then x else 0) := by kernel_rfl
section
variable {self : Self} {nf : Nat} {m m' : Mem} {F : Nat → Value} {p q r s x y z c : Nat} {w v o l : Nat → Nat}
theorem wof_body : ∃ m', abody E self nf 14 [U x] m = some (wide fun j => if j = 0 then x else 0, m') := by
  rw [abody_eqF (by kernel_rfl) Tryd.func14 bodywof (by kernel_rfl) (Nat.le_of_ble_eq_true rfl)]
  rw [show Tryd.f14.ntmps = 5 from rfl]
  have ha := alloc24 m
  obtain ⟨M, hM⟩ : ∃ M, M = m ++ [Blk.row false 24 (rowOf fun _ => 0)] := ⟨_, rfl⟩
  rw [← hM] at ha
  have g : M[m.length]? = some (.row false 24 (rowOf fun _ => 0)) := by rw [hM, List.getElem?_append_right (Nat.le_refl _)]; simp
  have st := store24 (w := fun j => if j = 0 then x else 0) g (rowOf_length _)
  have ld : aload E.P 24 (.pointer (some ⟨m.length, 0, none⟩)) (M.set m.length (.row false 24 (rowOf fun j => if j = 0 then x else 0))) = some (wide fun j => if j = 0 then x else 0) := load24 (by rw [List.getElem?_set_self (lt_of_at g)])
  have hb2 := abuildOf x
  generalize (wide fun j => if j = 0 then x else 0) = V at *
  simp only [owof_0, owof_1, agd_none, gdAt, gdV_bool, gdV_undef, List.append_eq, List.cons_append, List.nil_append, apure_call1, apure_call2, apure_call3, bft, btf, acodeN, List.getElem?_toArray, List.getElem?_cons_zero, List.getElem?_cons_succ, aopsN, adrawT, cls, astep, aop, afloat, ev, nth_lst, get_lst, aput, setAt_lst, upd_at, init_zero, init_succ, init_nil, Nat.reduceLT, Nat.reduceEqDiff, reduceIte, abuiltin, alen, Option.map_some, Option.map_none, orElse_some, apure_add, apure_eqlV, eqlVal_str, eqlVal_bool, eqlVal_ptr, eqlVal_slice, eqlVal_wide, eqlVal_int, allT, ↓aop_eqlV, apure_neq, List.map_cons, List.map_nil, List.all_cons, List.all_nil, lit2, lit1, lit0, List.isEmpty_nil, bls, Bool.false_eq_true, if_true, if_false, List.length_map, beq_self_eq_true, uns, ha, apure_build1, hb2, st, ld, finish, ares, aresL, ares1, Tryd.f14]
  exact ⟨_, rfl⟩
end
end Go.Am.Seat
namespace Go.Am
def val : List Nat → Nat
  | [] => 0
  | x :: l => x + 256 * val l
def dig (n : Nat) : List Nat := if h : n = 0 then [] else (n % 256) :: dig (n / 256)
termination_by n
decreasing_by omega
theorem dig_zero : dig 0 = [] := by rw [dig]; simp
theorem dig_pos {n : Nat} (h : n ≠ 0) : dig n = (n % 256) :: dig (n / 256) := by rw [dig]; simp [h]
theorem val_dig (n : Nat) : val (dig n) = n := by
  induction n using Nat.strongRecOn with
  | ind n ih =>
    by_cases h : n = 0
    · subst h; rw [dig_zero]; rfl
    · rw [dig_pos h, val, ih (n / 256) (by omega)]
      omega
theorem dig_lt (n : Nat) : ∀ x ∈ dig n, x < 256 := by
  induction n using Nat.strongRecOn with
  | ind n ih =>
    by_cases h : n = 0
    · subst h; rw [dig_zero]; simp
    · rw [dig_pos h]
      intro x hx
      rcases List.mem_cons.1 hx with rfl | hx
      · omega
      · exact ih (n / 256) (by omega) x hx
theorem val_append (a b : List Nat) : val (a ++ b) = val a + 256 ^ a.length * val b := by
  induction a with
  | nil => simp [val]
  | cons x a ih => simp only [List.cons_append, val, ih, List.length_cons, Nat.pow_succ]; rw [Nat.mul_add, Nat.mul_comm (256 ^ a.length) 256, Nat.mul_assoc]; omega
theorem val_lt {l : List Nat} (h : ∀ x ∈ l, x < 256) : val l < 256 ^ l.length := by
  induction l with
  | nil => simp [val]
  | cons x l ih =>
    have h1 := h x (by simp)
    have h2 := ih fun y hy => h y (by simp [hy])
    simp only [val, List.length_cons, Nat.pow_succ]
    omega
theorem val_noughts : ∀ {l : List Nat}, (∀ x ∈ l, x = 0) → val l = 0
  | [], _ => rfl
  | x :: l, h => by
    rw [val, h x (by simp), val_noughts fun y hy => h y (by simp [hy])]
theorem dig_val {l : List Nat} (h : ∀ x ∈ l, x < 256) (hl : l = [] ∨ ∃ x, 0 < x ∧ l[l.length - 1]? = some x) : dig (val l) = l := by
  induction l with
  | nil => exact dig_zero
  | cons x l ih =>
    have hx := h x (by simp)
    have hpos : l = [] → 0 < x := by
      intro hn
      subst hn
      rcases hl with hl | ⟨y, h1, h2⟩
      · cases hl
      · simp at h2; omega
    have ih' := ih (fun y hy => h y (by simp [hy])) (by
      by_cases hn : l = []
      · exact .inl hn
      · right
        rcases hl with hl | ⟨y, h1, h2⟩
        · cases hl
        · refine ⟨y, h1, ?_⟩
          have : 0 < l.length := List.length_pos_iff.2 hn
          rw [List.length_cons, show l.length + 1 - 1 = (l.length - 1) + 1 by omega, List.getElem?_cons_succ] at h2
          exact h2)
    have hv : val l ≠ 0 ∨ l = [] := by
      by_cases hn : l = []
      · exact .inr hn
      · left
        intro h0
        rw [h0, dig_zero] at ih'
        exact hn ih'.symm
    have hne : val (x :: l) ≠ 0 := by
      rw [val]
      rcases hv with hv | hv
      · omega
      · have := hpos hv; omega
    rw [dig_pos hne, val, show (x + 256 * val l) % 256 = x by omega, show (x + 256 * val l) / 256 = val l by omega, ih']
theorem dig_last (n : Nat) : dig n = [] ∨ ∃ x, 0 < x ∧ (dig n)[(dig n).length - 1]? = some x := by
  induction n using Nat.strongRecOn with
  | ind n ih =>
    by_cases h : n = 0
    · subst h; left; exact dig_zero
    · right
      rw [dig_pos h]
      rcases ih (n / 256) (by omega) with h1 | ⟨x, h1, h2⟩
      · rw [h1]
        have h0 : n / 256 = 0 := by rw [← val_dig (n / 256), h1]; rfl
        exact ⟨n % 256, by omega, by simp⟩
      · refine ⟨x, h1, ?_⟩
        have : (dig (n / 256)).length ≠ 0 := by
          intro h0
          rw [List.eq_nil_of_length_eq_zero h0] at h2
          simp at h2
        rw [List.length_cons, show (dig (n / 256)).length + 1 - 1 = ((dig (n / 256)).length - 1) + 1 by omega, List.getElem?_cons_succ]
        exact h2
theorem dig_len_le {n k : Nat} (h : n < 256 ^ k) : (dig n).length ≤ k := by
  induction k generalizing n with
  | zero =>
    have : n = 0 := by simpa using h
    subst this
    rw [dig_zero]; simp
  | succ k ih =>
    by_cases h0 : n = 0
    · subst h0; rw [dig_zero]; simp
    · rw [dig_pos h0, List.length_cons]
      have := ih (n := n / 256) (by rw [Nat.pow_succ] at h; omega)
      omega
theorem lt_dig_len (n : Nat) : n < 256 ^ (dig n).length := by
  have := val_lt (dig_lt n)
  rw [val_dig] at this
  exact this
theorem dig_len_ge {n k : Nat} (h : 256 ^ k ≤ n) : k < (dig n).length := by
  have h1 := lt_dig_len n
  have h2 : 256 ^ k < 256 ^ (dig n).length := Nat.lt_of_le_of_lt h h1
  exact (Nat.pow_lt_pow_iff_right (by omega)).1 h2
theorem dig_inj {a b : Nat} (h : dig a = dig b) : a = b := by rw [← val_dig a, ← val_dig b, h]
theorem val_take {l : List Nat} (h : ∀ x ∈ l, x < 256) (k : Nat) : val (l.take k) = val l % 256 ^ k := by
  have h1 : val l = val (l.take k) + 256 ^ (l.take k).length * val (l.drop k) := by
    rw [← val_append, List.take_append_drop]
  have h2 := val_lt (l := l.take k) fun x hx => h x (List.mem_of_mem_take hx)
  by_cases hk : k ≤ l.length
  · rw [List.length_take, Nat.min_eq_left hk] at h1 h2
    rw [h1, Nat.add_mul_mod_self_left, Nat.mod_eq_of_lt h2]
  · rw [List.take_of_length_le (by omega)] at h2 ⊢
    rw [Nat.mod_eq_of_lt]
    exact Nat.lt_of_lt_of_le h2 (Nat.pow_le_pow_right (by omega) (by omega))
theorem val_drop {l : List Nat} (h : ∀ x ∈ l, x < 256) {k : Nat} (hk : k ≤ l.length) : val (l.drop k) = val l / 256 ^ k := by
  have h1 : val l = val (l.take k) + 256 ^ (l.take k).length * val (l.drop k) := by
    rw [← val_append, List.take_append_drop]
  have h2 := val_lt (l := l.take k) fun x hx => h x (List.mem_of_mem_take hx)
  rw [List.length_take, Nat.min_eq_left hk] at h1 h2
  rw [h1, Nat.add_mul_div_left _ _ (Nat.lt_of_le_of_lt (Nat.zero_le _) h2), Nat.div_eq_of_lt h2, Nat.zero_add]
theorem val_step {l : List Nat} {i x : Nat} (h : l[i]? = some x) : val (l.take (i + 1)) = val (l.take i) + 256 ^ i * x := by
  have hi : i < l.length := (List.getElem?_eq_some_iff.1 h).1
  rw [List.take_add_one, h, val_append, List.length_take, Nat.min_eq_left (by omega)]
  simp [val]
theorem val_same {l : List Nat} {i : Nat} (h : l.length ≤ i) : val (l.take (i + 1)) = val (l.take i) := by
  rw [List.take_of_length_le (by omega), List.take_of_length_le h]
theorem same_len : ∀ {a b : List Nat}, (∀ x ∈ a, x < 256) → (∀ x ∈ b, x < 256) → a.length = b.length → val a = val b → a = b
  | [], [], _, _, _, _ => rfl
  | x :: a, y :: b, ha, hb, hl, hv => by
    have h1 := ha x (by simp)
    have h2 := hb y (by simp)
    simp only [val] at hv
    have h3 : x = y := by omega
    have h4 : val a = val b := by omega
    rw [h3, same_len (fun z hz => ha z (by simp [hz])) (fun z hz => hb z (by simp [hz])) (by simpa using hl) h4]
end Go.Am
namespace Go.Am
noncomputable section
def PPost (D : List Deferred) (P : Program) (ρ : Ren) (m : Mem) (w : World) (pv : Value) (T1 : List Value) (m1 : Mem) (e : Exit) (a1 : Act) (w1 : World) : Prop :=
  ∃ pv' ρ1, e = .panic [{ v := pv', recovered := false }] ∧ a1.defers = D ∧ TR ρ1 T1 a1.tmps ∧ VR ρ1 pv pv' ∧ MR P ρ1 m1 w1 ∧ Ext ρ m w ρ1 m1 w1
theorem PPost.after {D : List Deferred} {P : Program} {ρ ρ1 : Ren} {m m1 m2 : Mem} {w w1 w2 : World} {pv : Value} {T2 : List Value} {e : Exit} {a2 : Act} (hx : Ext ρ m w ρ1 m1 w1) (h : PPost D P ρ1 m1 w1 pv T2 m2 e a2 w2) : PPost D P ρ m w pv T2 m2 e a2 w2 := by
  obtain ⟨pv', ρ2, h1, h2, h3, h4, h5, h6⟩ := h
  exact ⟨pv', ρ2, h1, h2, h3, h4, h5, hx.trans h6⟩
end
end Go.Am
namespace Go.Am
noncomputable section
inductive PS where
  | none
  | live (pv : Value)
  | done
def PS.ok (ρ : Ren) : PS → FrameMode → Prop
  | .none, u => u = .returning
  | .live pv, u => ∃ pv', u = .panicking [{ v := pv', recovered := false }] ∧ VR ρ pv pv'
  | .done, u => ∃ pv', u = .panicking [{ v := pv', recovered := true }]
def SPost (D : List Deferred) (c₀ : Frame) (cs : List Frame) (P : Program) (ρ : Ren) (m : Mem) (w : World) (T1 : List Value) (m1 : Mem) (s1 : PS) (a1 : Act) (cs1 : List Frame) (w1 : World) : Prop :=
  a1.defers = D ∧ ∃ ρ1 u1, cs1 = { c₀ with mode := u1 } :: cs ∧ s1.ok ρ1 u1 ∧ TR ρ1 T1 a1.tmps ∧ MR P ρ1 m1 w1 ∧ Ext ρ m w ρ1 m1 w1
theorem SPost.after {D : List Deferred} {c₀ : Frame} {cs : List Frame} {P : Program} {ρ ρ1 : Ren} {m m1 m2 : Mem} {w w1 w2 : World} {T2 : List Value} {s2 : PS} {a2 : Act} {cs2 : List Frame} (hx : Ext ρ m w ρ1 m1 w1) (h : SPost D c₀ cs P ρ1 m1 w1 T2 m2 s2 a2 cs2 w2) : SPost D c₀ cs P ρ m w T2 m2 s2 a2 cs2 w2 := by
  obtain ⟨h1, ρ2, u2, h2, h3, h4, h5, h6⟩ := h
  exact ⟨h1, ρ2, u2, h2, h3, h4, h5, hx.trans h6⟩
def DefIs (P : Program) (ρ : Ren) (g : FuncId) (dargs : List Value) (d : Deferred) : Prop :=
  ∃ cap : Array Value, d.target = .fn (.func g) cap ∧ TR ρ dargs (d.args ++ cap) ∧ ∀ w : World, (invoke d.target d.args).run P w = .ok (.enter g (d.args ++ cap)) w
theorem DefIs.mono {P : Program} {ρ ρ' : Ren} (hl : ρ.le ρ') {g : FuncId} {dargs : List Value} {d : Deferred} (h : DefIs P ρ g dargs d) : DefIs P ρ' g dargs d := by
  obtain ⟨cap, h1, h2, h3⟩ := h
  exact ⟨cap, h1, h2.mono hl, h3⟩
end
end Go.Am
