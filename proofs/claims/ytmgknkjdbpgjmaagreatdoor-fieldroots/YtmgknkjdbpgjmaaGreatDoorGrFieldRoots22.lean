/-
  Texts of my own, put together: E14, E16, S20, F1, F2, F3, F4, F7.
-/
import Derived.Test.YtmgknkjdbpgjmaaGreatDoorGrFieldRoots21
import Derived.Test.YtmgknkjdbpgjmaaGreatDoorGrFieldRoots8
set_option linter.unusedSimpArgs false
set_option linter.unusedVariables false
set_option maxRecDepth 100000
namespace Go.Am.Seat
open Go.Proofs Go.Am Go.Am.Num
set_option maxHeartbeats 4000000
noncomputable def rle_0 : Array Oper := match Tryz.f54.body with
  | some (.seq (.region _ o _) _) => o
  | _ => #[]
noncomputable def lle_0 : List Oper := match Tryz.f54.body with
  | some (.seq (.region _ o _) _) => o.toList
  | _ => []
theorem ele_0 : rle_0.toList = lle_0 := rfl
noncomputable def rle_1 : Array Oper := match Tryz.f54.body with
  | some (.seq _ (.seq (.cond _ (.seq (.region _ o _) _) _) _)) => o
  | _ => #[]
noncomputable def lle_1 : List Oper := match Tryz.f54.body with
  | some (.seq _ (.seq (.cond _ (.seq (.region _ o _) _) _) _)) => o.toList
  | _ => []
theorem ele_1 : rle_1.toList = lle_1 := rfl
noncomputable def rle_2 : Array Oper := match Tryz.f54.body with
  | some (.seq _ (.seq _ (.seq (.region _ o _) _))) => o
  | _ => #[]
noncomputable def lle_2 : List Oper := match Tryz.f54.body with
  | some (.seq _ (.seq _ (.seq (.region _ o _) _))) => o.toList
  | _ => []
theorem ele_2 : rle_2.toList = lle_2 := rfl
theorem bodyle : Tryz.f54.body = some (.seq (.region 0 rle_0 false) (.seq (.cond (.const (.bool false)) (.seq (.region 1 rle_1 false) .ret) .skip) (.seq (.region 2 rle_2 false) .ret))) := rfl
-- ntmps 8
theorem callLen64 : callableB E.P 70 = true := by kernel_rfl
theorem len_body {self : Self} {nf : Nat} {m : Mem} (h : Ans self 70 [.int .u64 250] (.int .i64 8)) : ∃ m', abody E self nf 54 [.int .u64 250] m = some (.int .i64 8, m') := by
  rw [abody_eqF (by kernel_rfl) Tryz.func54 bodyle (by kernel_rfl) (Nat.le_of_ble_eq_true rfl)]
  rw [show Tryz.f54.ntmps = 8 from rfl]
  unfold Ans at h
  simp only [ele_0, ele_1, ele_2, lle_0, lle_1, lle_2, agd_none, gdAt, gdV_bool, gdV_undef, Tryz.f54, List.append_eq, List.cons_append, List.nil_append, apure_call1, apure_call2, apure_call3, bft, btf, acodeN, List.getElem?_toArray, List.getElem?_cons_zero, List.getElem?_cons_succ, aopsN, adrawT, cls, astep, aop, afloat, ev, nth_lst, get_lst, aput, setAt_lst, upd_at, init_zero, init_succ, init_nil, Nat.reduceLT, Nat.reduceEqDiff, reduceIte, abuiltin, alen, Option.map_some, Option.map_none, orElse_some, apure_add, apure_eqlV, eqlVal_str, eqlVal_bool, eqlVal_ptr, eqlVal_slice, eqlVal_wide, eqlVal_int, allT, ↓aop_eqlV, apure_neq, List.map_cons, List.map_nil, List.all_cons, List.all_nil, lit2, lit1, lit0, List.isEmpty_nil, bls, Bool.false_eq_true, if_true, if_false, List.length_map, beq_self_eq_true, uns, callLen64, h, finish, ares, aresL, ares1]
  exact ⟨_, rfl⟩
def AnsG (self : Self) (f : FuncId) (args : List Value) (v : Value) : Prop := ∀ M : Mem, E.G ≤ M.length → ainv E self f args M = some (v, M)
theorem Ans.g {self : Self} {f : FuncId} {args : List Value} {v : Value} (h : Ans self f args v) : AnsG self f args v := fun M _ => h M
theorem ans_ofG {self : Self} {f : FuncId} {args : List Value} {v : Value} (ha : args.all lit2 = true) (hf : E.fast f = none) (hv : lit2 v = true) (h : ∀ m, E.G ≤ m.length → ∃ m', self f args m = some (v, m')) : AnsG self f args v := by
  intro M hM
  obtain ⟨m', h'⟩ := h ((M.take E.G).map onlyTab) (by rw [List.length_map, List.length_take]; omega)
  exact ainv_lit ha hf h' hv
def fieldFs : List FuncId := [59, 49, 26, 46, 22, 30, 41, 54, 70, 42, 14, 27, 5, 7, 32, 51, 31, 24, 23, 20, 18, 8, 16]
def NoF (K : List Fact) : Prop := ∀ f ∈ fieldFs, hasF K f = false
section
variable {MM : Mem} {K : List Fact} (hK : NoF K) {n : Nat}
include hK
theorem rk {f : FuncId} (hf : f ∈ fieldFs) {args : List Value} {m : Mem} : runK E MM K (n + 1) f args m = abody E (runK E MM K n) (n + 1) f args m := by
  rw [runK]
  simp only [hK f hf]
theorem L_ml (x y : Nat) (hx : x < 18446744073709551616) (hy : y < 18446744073709551616) : Ans (runK E MM K (n + 1)) 59 [.int .u64 (x : Nat), .int .u64 (y : Nat)] (pair64 (x * y / 18446744073709551616) (x * y % 18446744073709551616)) :=
  ans_of rfl (by kernel_rfl) rfl fun m => ⟨_, by rw [rk hK (by decide)]; exact ml_body hx hy⟩
theorem L_pl (V k : Nat) (hk : k < 18446744073709551616) : Ans (runK E MM K (n + 1)) 49 [.int .u64 (wd 0 V : Nat), .int .u64 (wd 1 V : Nat), .int .u64 (wd 2 V : Nat), .int .u64 (wd 3 V : Nat), .int .u64 (k : Nat)] (tup4 (wd 0 (V + k)) (wd 1 (V + k)) (wd 2 (V + k)) (wd 3 (V + k))) :=
  ans_of rfl (by kernel_rfl) rfl fun m => ⟨_, by rw [rk hK (by decide)]; exact pl_body hk⟩
theorem L_se : SettleOk (runK E MM K (n + 2)) := fun a b c d more ha hb hc hd hm => ans_of rfl (by kernel_rfl) rfl fun m => by
  rw [rk hK (by decide)]; exact se_body ha hb hc hd hm (fun V k hk => L_pl hK V k hk)
theorem L_tm : TimesOk (runK E MM K (n + 2)) := fun x0 x1 x2 x3 k a b c d V h0 h1 h2 h3 hk ha hb hc hd hV => ans_of rfl (by kernel_rfl) rfl fun m => by
  rw [rk hK (by decide)]; exact tm_body h0 h1 h2 h3 hk ha hb hc hd (fun x y hx hy => L_ml hK x y hx hy) hV
theorem L_mul (h : 10 ≤ n) : MulOk (runK E MM K (n + 3)) := fun A B hA hB => ans_of rfl (by kernel_rfl) rfl fun m => by
  rw [rk hK (by decide)]; exact fm_body (p_lt4 hA) (p_lt4 hB) (L_tm hK) (L_se hK) (by omega)
theorem L_sq (h : 10 ≤ n) : SquareOk (runK E MM K (n + 4)) := fun A hA => ans_of rfl (by kernel_rfl) rfl fun m => by
  rw [rk hK (by decide)]; exact sq_body (L_mul hK h A A hA hA)
theorem L_ss (h : 1000 ≤ n) : SquaresOk (runK E MM K (n + 5)) := fun A k hA hk => ans_of rfl (by kernel_rfl) rfl fun m => by
  rw [rk hK (by decide)]; exact ss_body hA hk (L_sq hK (by omega)) (by omega)
theorem L_len64 : Ans (runK E MM K (n + 1)) 70 [.int .u64 250] (.int .i64 8) := ans_of rfl (by kernel_rfl) rfl fun m => ⟨_, by rw [rk hK (by decide)]; exact len64_body⟩
theorem L_len : Ans (runK E MM K (n + 2)) 54 [.int .u64 250] (.int .i64 8) := ans_of rfl (by kernel_rfl) rfl fun m => by
  rw [rk hK (by decide)]; exact len_body (L_len64 hK)
theorem L_on (h : 1000 ≤ n) (A : Nat) (hA : A < P25519) : Ans (runK E MM K (n + 6)) 42 [el A] (el (pw A (2 ^ 250 - 1))) := ans_of rfl (by kernel_rfl) rfl fun m => by
  rw [rk hK (by decide)]; exact on_body hA (L_sq hK (by omega)) (L_mul hK (by omega)) (L_ss hK h) (L_len hK) (by omega)
theorem L_iv (h : 1000 ≤ n) (A : Nat) (hA : A < P25519) : AnsG (runK E MM K (n + 7)) 14 [el A] (el (pw A (P25519 - 2))) := ans_ofG rfl (by kernel_rfl) rfl fun m hm => by
  rw [rk hK (by decide)]; exact iv_body hA hm (L_sq hK (by omega)) (L_mul hK (by omega)) (L_ss hK (by omega)) (L_on hK h A hA)
theorem L_wo (h : 20 ≤ n) (b : Nat → Nat) (hb : ∀ i, b i < 256) (k : Nat) (hk : k < 4) : Ans (runK E MM K (n + 1)) 27 [arrK .u8 32 b, .int .i64 (k : Nat)] (.int .u64 ((accW b k 8 : Nat) : Int)) := ans_of (by simp only [List.all_cons, arrK_lit]; rfl) (by kernel_rfl) rfl fun m => by
  rw [rk hK (by decide)]; exact wo_body hk hb (by omega)
theorem L_lo (h : 20 ≤ n) (b : Nat → Nat) (hb : ∀ i, b i < 256) : Ans (runK E MM K (n + 3)) 5 [arrK .u8 32 b] (el (looseF b)) := ans_of (by simp only [List.all_cons, arrK_lit]; rfl) (by kernel_rfl) rfl fun m => by
  rw [rk hK (by decide)]; exact lo_body hb (fun k hk => L_wo hK (by omega) b hb k hk) (L_se hK)
theorem L_by (h : 40 ≤ n) (X : Nat) : Ans (runK E MM K (n + 1)) 7 [el X] (arrK .u8 32 (byteX X)) := ans_of rfl (by kernel_rfl) (arrK_lit _ _ _) fun m => by
  rw [rk hK (by decide)]; exact by_body (by omega)
theorem L_ng (X : Nat) (hX : X < P25519) : AnsT (runK E MM K (n + 3)) 32 [el X] (el ((P25519 - X) % P25519)) := ans_ofT rfl (by kernel_rfl) rfl fun m hm => by
  rw [rk hK (by decide)]; exact ng_body (Nat.le_of_lt hX) (L_se hK) hm
theorem L_ng1 (X : Nat) (hX : X < P25519) : Ans (runK E MM K (n + 1)) 51 [el X] (.bool (decide (X % 2 = 1))) := ans_of rfl (by kernel_rfl) rfl fun m => by
  rw [rk hK (by decide)]; exact ng1_body (p_lt4 hX)
theorem L_ab (X : Nat) (hX : X < P25519) : AnsT (runK E MM K (n + 4)) 31 [el X] (el (absF X)) := ans_ofT rfl (by kernel_rfl) rfl fun m hm => by
  rw [rk hK (by decide)]; exact ab_body (L_ng1 hK X hX) (L_ng hK X hX) hm
end
end Go.Am.Seat
namespace Go.Am.Seat
open Go.Proofs Go.Am Go.Am.Num
set_option maxHeartbeats 4000000
-- ntmps 80
noncomputable def eqFl (P : Program) (s : TypeId) (x y : Operand) (u v : Value) : Option Value := match u with
  | .int k a => (match v with
    | .int k' b => (match abin .eql k a k' b with
      | some w => some w
      | none => eqlVal P s x y u v)
    | _ => eqlVal P s x y u v)
  | _ => (match eqlVal P s x y u v with
    | some w => some w
    | none => (match aeq P s u v with
      | some b => some (.bool b)
      | none => none))
theorem afloat_eqlV {P : Program} {T : List Value} {d : Option Tmp} {s t ty : TypeId} {x y : Operand} {pos : String} {af : Array Edge} {g : Option (Nat × Bool)} :
    afloat P T { dst := d, op := .binOp .eql s x y t, type := ty, pos := pos, after := af, guard := g } = eqFl P s x y (ev T x) (ev T y) := by
  unfold afloat eqFl
  simp only [apure_eqlV]
  rfl
theorem bytes_same {X Y : Nat} (hX : X < P25519) (hY : Y < P25519) : ((List.range 32).all fun j => ((byteX X j : Nat) : Int) == ((byteX Y j : Nat) : Int)) = decide (X = Y) := by
  by_cases h : X = Y
  · subst h; simp
  · rw [decide_eq_false h]
    cases hq : (List.range 32).all (fun j => ((byteX X j : Nat) : Int) == ((byteX Y j : Nat) : Int)) with
    | false => rfl
    | true =>
      exfalso
      apply h
      rw [List.all_eq_true] at hq
      have hb : ∀ j, j < 32 → byteX X j = byteX Y j := fun j hj => by
        have := hq j (List.mem_range.2 hj)
        exact Int.ofNat.inj (by simpa using this)
      rw [← loose_byteX hX, ← loose_byteX hY]
      unfold looseF
      have ha : ∀ k, k < 4 → accW (byteX X) k 8 = accW (byteX Y) k 8 := fun k hk => accW_ext k (fun i hi => hb (8 * k + i) (by omega)) 8 (Nat.le_refl _)
      rw [ha 0 (by omega), ha 1 (by omega), ha 2 (by omega), ha 3 (by omega)]
theorem abs_neg {X : Nat} (hX : X < P25519) : absF X = absF ((P25519 - X) % P25519) := by
  have hP : P25519 = 57896044618658097711785492504343953926634992332820282019728792003956564819949 := rfl
  unfold absF
  by_cases h0 : X = 0
  · subst h0
    rw [Nat.sub_zero, Nat.mod_self, if_neg (by decide), if_neg (by decide)]
  · have h1 : (P25519 - X) % P25519 = P25519 - X := Nat.mod_eq_of_lt (by omega)
    rw [h1]
    by_cases h : X % 2 = 1
    · rw [if_pos h, if_neg (by omega)]
    · rw [if_neg h, if_pos (by omega), show P25519 - (P25519 - X) = X by omega, Nat.mod_eq_of_lt hX]
theorem absF_lt {X : Nat} (hX : X < P25519) : absF X < P25519 := by
  unfold absF
  split
  · exact Nat.mod_lt _ (by decide)
  · exact hX
theorem callAb : callableB E.P 31 = true := by kernel_rfl
theorem wrAb : E.wr 31 = false := by kernel_rfl
theorem wrLo : E.wr 5 = false := by kernel_rfl
theorem callAw5 : callableB E.P 4 = true := by kernel_rfl
section
variable {self : Self} {nf : Nat} {F : Nat → Value} {B D N N2 : Mem} {va vb vP vQ vX vY bX bY vN vA : Value} {pa pb px py pu pv pn : Nat} {rX rY : Blk}
end
section
variable {self : Self} {nf : Nat} {m : Mem} {a b : Nat → Nat}
end
end Go.Am.Seat
namespace Go.Am
def moreB : Blk → Blk → Bool
  | .dead, .dead => true
  | .dead, .tab _ _ => true
  | .tab e cs, .tab e' cs' => eqB (.tab e cs) (.tab e' cs')
  | _, _ => false
def more : Mem → Mem → Bool
  | [], [] => true
  | x :: l, y :: l' => moreB x y && more l l'
  | _, _ => false
theorem moreB_spec {x y : Blk} (h : moreB x y = true) : (x = .dead ∨ x = y) ∧ (∀ ro e cs, x ≠ .row ro e cs) ∧ ∀ ro e cs, y ≠ .row ro e cs := by
  unfold moreB at h
  split at h
  · exact ⟨.inl rfl, fun _ _ _ => by simp, fun _ _ _ => by simp⟩
  · exact ⟨.inl rfl, fun _ _ _ => by simp, fun _ _ _ => by simp⟩
  · exact ⟨.inr (eqB_sound h), fun _ _ _ => by simp, fun _ _ _ => by simp⟩
  · cases h
theorem more_length : ∀ {M M' : Mem}, more M M' = true → M.length = M'.length
  | [], [], _ => rfl
  | x :: l, y :: l', h => by
    simp only [more, Bool.and_eq_true] at h
    simp [more_length h.2]
  | [], _ :: _, h => by simp [more] at h
  | _ :: _, [], h => by simp [more] at h
theorem more_at : ∀ {M M' : Mem}, more M M' = true → ∀ (k : Nat) (x y : Blk), M[k]? = some x → M'[k]? = some y → moreB x y = true
  | [], [], _, k, x, y, hx, _ => by simp at hx
  | a :: l, b :: l', h, k, x, y, hx, hy => by
    simp only [more, Bool.and_eq_true] at h
    cases k with
    | zero => simp at hx hy; subst hx; subst hy; exact h.1
    | succ k => simp at hx hy; exact more_at h.2 k x y hx hy
  | [], _ :: _, h, _, _, _, _, _ => by simp [more] at h
  | _ :: _, [], h, _, _, _, _, _ => by simp [more] at h
theorem more_pair {M M' : Mem} (h : more M M' = true) {k : Nat} : (M[k]? = none ∧ M'[k]? = none) ∨ ∃ x y, M[k]? = some x ∧ M'[k]? = some y ∧ moreB x y = true := by
  have hl := more_length h
  by_cases hk : k < M.length
  · have h1 : M[k]? = some M[k] := by simp [hk]
    have h2 : M'[k]? = some (M'[k]'(by omega)) := by simp [show k < M'.length by omega]
    exact .inr ⟨_, _, h1, h2, more_at h k _ _ h1 h2⟩
  · exact .inl ⟨List.getElem?_eq_none (by omega), List.getElem?_eq_none (by omega)⟩
theorem more_norow {M M' : Mem} (h : more M M' = true) (k : Nat) (ro : Bool) (e : TypeId) (cs : List Value) : M[k]? ≠ some (.row ro e cs) ∧ M'[k]? ≠ some (.row ro e cs) := by
  rcases more_pair h (k := k) with ⟨h1, h2⟩ | ⟨x, y, h1, h2, hb⟩
  · rw [h1, h2]; exact ⟨by simp, by simp⟩
  · obtain ⟨_, n1, n2⟩ := moreB_spec hb
    rw [h1, h2]
    exact ⟨fun q => n1 _ _ _ (Option.some.inj q), fun q => n2 _ _ _ (Option.some.inj q)⟩
theorem mr_less {P : Program} {ρ : Ren} {M M' : Mem} {w : World} (hm : more M M' = true) (h : MR P ρ M' w) : MR P ρ M w := by
  have hlook : ∀ k ro e cs, look M k = some (ro, e, cs) → look M' k = some (ro, e, cs) := by
    intro k ro e cs hk
    rcases more_pair hm (k := k) with ⟨h1, h2⟩ | ⟨x, y, h1, h2, hb⟩
    · unfold look at hk; rw [h1] at hk; cases hk
    · unfold look at hk ⊢
      rw [h1] at hk
      rw [h2]
      obtain ⟨rfl | rfl, _, _⟩ := moreB_spec hb
      · simp [Blk.cells?] at hk
      · exact hk
  refine ⟨fun k hk => h.dom k (by rw [← more_length hm]; exact hk), h.bnd, h.glob, fun k ro e cs hk => h.row k ro e cs (hlook k ro e cs hk), fun k e cs k' ro' e' cs' x x' hk => absurd hk (more_norow hm k false e cs).1, fun k e cs hk v hv => ?_⟩
  rcases more_pair hm (k := k) with ⟨h1, h2⟩ | ⟨x, y, h1, h2, hb⟩
  · rw [h1] at hk; cases hk
  · rw [h1] at hk
    cases hk
    obtain ⟨q | rfl, _, _⟩ := moreB_spec hb
    · cases q
    · exact h.tab k e cs h2 v hv
theorem Fact.more {P : Program} {M M' : Mem} {F : Fact} (hm : Go.Am.more M M' = true) (h : F.holds P M) : F.holds P M' := by
  intro ρ w args' hr ht
  refine (h ρ w args' (mr_less hm hr) ht).mono ?_
  rintro e w1 ⟨v', ρ1, rfl, hv, hr1, hx⟩
  have hl := more_length hm
  have hsame : ∀ k, k < M'.length → ρ1 k = ρ k := fun k hk => hx.same k (by omega)
  have hkeep : ∀ r, r < w.heap.size → w1.heap[r]? = w.heap[r]? := fun r hr => hx.kept r hr fun k e cs x hk => absurd hk (more_norow hm k false e cs).1
  refine ⟨v', ρ1, rfl, hv, ⟨fun k hk => hr1.dom k (by omega), hr1.bnd, hr1.glob, fun k ro e cs hk => ?_, fun k e cs k' ro' e' cs' x x' hk => absurd hk (more_norow hm k false e cs).2, hr.tab⟩, ⟨hx.le, hsame, Nat.le_refl _, fun k x hk hxx => ?_, hx.os, hx.tape, hx.output, hx.size, fun r hr _ => hkeep r hr, fun k e cs x hk => absurd hk (more_norow hm k false e cs).2⟩⟩
  · obtain ⟨x, c, fr, a1, a2, a3, a4, a5, a6, a7⟩ := hr.row k ro e cs hk
    have hk' : k < M'.length := by
      unfold look at hk
      split at hk
      · rename_i b hb
        exact (List.getElem?_eq_some_iff.1 hb).1
      · cases hk
    refine ⟨x, c, fr, by rw [hsame k hk']; exact a1, by rw [hkeep _ (hr.bnd k x a1)]; exact a2, a3, a4, fun i u hu => ?_, a6, a7⟩
    obtain ⟨v, b1, b2⟩ := a5 i u hu
    exact ⟨v, b1, b2.mono hx.le⟩
  · rw [hr1.dom k (by omega)] at hxx; cases hxx
end Go.Am
namespace Go.Am.Seat
open Go.Proofs Go.Am Go.Am.Num
def Fe := { n : Nat // n < P25519 }
theorem p_pos : 0 < P25519 := by decide
def fe (n : Nat) : Fe := ⟨n % P25519, Nat.mod_lt _ p_pos⟩
def ef (x : Fe) : Value := el x.1
theorem ef_lit (x : Fe) : lit2 (ef x) = true := rfl
theorem fe_ext {x y : Fe} (h : x.1 = y.1) : x = y := Subtype.ext h
def fadd (x y : Fe) : Fe := fe (x.1 + y.1)
def fmul (x y : Fe) : Fe := fe (x.1 * y.1)
def fneg (x : Fe) : Fe := fe (P25519 - x.1)
def fpw (x : Fe) (e : Nat) : Fe := ⟨pw x.1 e, pw_lt _ _⟩
def fabs (x : Fe) : Fe := ⟨absF x.1, absF_lt x.2⟩
def f0 : Fe := ⟨0, p_pos⟩
def f1 : Fe := ⟨1, by decide⟩
instance : DecidableEq Fe := fun x y => if h : x.1 = y.1 then Decidable.isTrue (fe_ext h) else Decidable.isFalse fun q => h (q ▸ rfl)
theorem dec_val (x y : Fe) : decide (x = y) = decide (x.1 = y.1) := by
  by_cases h : x = y
  · subst h; simp
  · have h' : x.1 ≠ y.1 := fun q => h (fe_ext q)
    simp [h, h']
theorem fadd_comm (x y : Fe) : fadd x y = fadd y x := by unfold fadd; rw [Nat.add_comm]
theorem fmul_comm (x y : Fe) : fmul x y = fmul y x := by unfold fmul; rw [Nat.mul_comm]
theorem fadd_assoc (x y z : Fe) : fadd (fadd x y) z = fadd x (fadd y z) := fe_ext (by
  show ((x.1 + y.1) % P25519 + z.1) % P25519 = (x.1 + (y.1 + z.1) % P25519) % P25519
  rw [Nat.mod_add_mod, Nat.add_mod_mod, Nat.add_assoc])
theorem fmul_assoc (x y z : Fe) : fmul (fmul x y) z = fmul x (fmul y z) := fe_ext (by
  show (x.1 * y.1 % P25519 * z.1) % P25519 = (x.1 * (y.1 * z.1 % P25519)) % P25519
  rw [Nat.mod_mul_mod, Nat.mul_mod_mod, Nat.mul_assoc])
theorem fmul_add (x y z : Fe) : fmul x (fadd y z) = fadd (fmul x y) (fmul x z) := fe_ext (by
  show x.1 * ((y.1 + z.1) % P25519) % P25519 = (x.1 * y.1 % P25519 + x.1 * z.1 % P25519) % P25519
  rw [Nat.mul_mod_mod, Nat.mul_add, Nat.mod_add_mod, Nat.add_mod_mod])
theorem fadd_zero (x : Fe) : fadd x f0 = x := fe_ext (by
  show (x.1 + 0) % P25519 = x.1
  rw [Nat.add_zero, Nat.mod_eq_of_lt x.2])
theorem fmul_one (x : Fe) : fmul x f1 = x := fe_ext (by
  show (x.1 * 1) % P25519 = x.1
  rw [Nat.mul_one, Nat.mod_eq_of_lt x.2])
theorem fmul_zero (x : Fe) : fmul x f0 = f0 := fe_ext (by
  show (x.1 * 0) % P25519 = 0
  rw [Nat.mul_zero, Nat.zero_mod])
theorem fneg_add (x : Fe) : fadd (fneg x) x = f0 := fe_ext (by
  show ((P25519 - x.1) % P25519 + x.1) % P25519 = 0
  rw [Nat.mod_add_mod, Nat.sub_add_cancel (Nat.le_of_lt x.2), Nat.mod_self])
theorem fadd_neg (x : Fe) : fadd x (fneg x) = f0 := by rw [fadd_comm, fneg_add]
theorem fadd_cancel {x y z : Fe} (h : fadd x z = fadd y z) : x = y := by
  have := congrArg (fun w => fadd w (fneg z)) h
  simpa only [fadd_assoc, fadd_neg, fadd_zero] using this
theorem neg_of_sum {x y : Fe} (h : fadd x y = f0) : x = fneg y := fadd_cancel (h.trans (fneg_add y).symm)
theorem fneg_mul (x y : Fe) : fmul (fneg x) y = fneg (fmul x y) := by
  apply neg_of_sum
  rw [fmul_comm, fmul_comm x y, ← fmul_add, fneg_add, fmul_zero]
theorem fneg_neg (x : Fe) : fneg (fneg x) = x := (neg_of_sum (fadd_neg x)).symm
theorem fpw_one (x : Fe) : fpw x 1 = x := fe_ext (pw_one x.2)
theorem fpw_mul (x : Fe) (a b : Nat) : fmul (fpw x a) (fpw x b) = fpw x (a + b) := fe_ext (pw_mul x.1 a b)
theorem fpw_pow (x : Fe) (a b : Nat) : fpw (fpw x a) b = fpw x (a * b) := fe_ext (pw_pow x.1 a b)
theorem fpw_prod (x y : Fe) (e : Nat) : fpw (fmul x y) e = fmul (fpw x e) (fpw y e) := fe_ext (by
  show (x.1 * y.1 % P25519) ^ e % P25519 = (x.1 ^ e % P25519) * (y.1 ^ e % P25519) % P25519
  rw [← Nat.pow_mod, Nat.mul_pow, Nat.mul_mod])
theorem dvd_fe {x : Fe} (h : P25519 ∣ x.1) : x = f0 := fe_ext (Nat.eq_zero_of_dvd_of_lt h x.2)
theorem prime_P0 : IsPrime P25519 := prime_p
theorem fmul_eq_zero {x y : Fe} (h : fmul x y = f0) : x = f0 ∨ y = f0 := by
  have h1 : x.1 * y.1 % P25519 = 0 := congrArg Subtype.val h
  rcases prime_P0.dvd_mul (Nat.dvd_of_mod_eq_zero h1) with h2 | h2
  · exact .inl (dvd_fe h2)
  · exact .inr (dvd_fe h2)
theorem fmul_cancel {x y z : Fe} (hz : z ≠ f0) (h : fmul x z = fmul y z) : x = y := by
  have h1 : fmul (fadd x (fneg y)) z = f0 := by
    rw [fmul_comm, fmul_add, fmul_comm z x, fmul_comm z (fneg y), fneg_mul, h, fadd_neg]
  rcases fmul_eq_zero h1 with h2 | h2
  · rw [neg_of_sum h2, fneg_neg]
  · exact absurd h2 hz
theorem fpw_of {x y : Fe} {e : Nat} (h : x.1 ^ e % P25519 = y.1) : fpw x e = y := fe_ext h
theorem prime_P : IsPrime P25519 := prime_p
theorem ffermat {x : Fe} (h : x ≠ f0) : fpw x (P25519 - 1) = f1 := by
  have h2 := fermat prime_P (a := x.1) fun q => h (dvd_fe q)
  exact fpw_of (y := f1) h2
theorem finv {x : Fe} (h : x ≠ f0) : fmul x (fpw x (P25519 - 2)) = f1 := by
  have := fpw_mul x 1 (P25519 - 2)
  rw [fpw_one] at this
  rw [this, show 1 + (P25519 - 2) = P25519 - 1 by decide, ffermat h]
theorem square_eq {x y : Fe} (h : fmul x x = fmul y y) : x = y ∨ x = fneg y := by
  have h1 : fmul (fadd x (fneg y)) (fadd x y) = f0 := by
    rw [fmul_add, fmul_comm _ x, fmul_comm _ y, fmul_add, fmul_add, h, fmul_comm y x, fmul_comm x (fneg y), fmul_comm y (fneg y), fneg_mul, fneg_mul, fmul_comm y x, fadd_assoc, ← fadd_assoc (fneg (fmul x y)), fneg_add, fadd_comm f0, fadd_zero, fadd_neg]
  rcases fmul_eq_zero h1 with h2 | h2
  · left; rw [neg_of_sum h2, fneg_neg]
  · exact .inr (neg_of_sum h2)
theorem fabs_neg (x : Fe) : fabs (fneg x) = fabs x := fe_ext (abs_neg x.2).symm
theorem fabs_or (x : Fe) : fabs x = x ∨ fabs x = fneg x := by
  unfold fabs absF
  by_cases h : x.1 % 2 = 1
  · right; apply fe_ext; show (if x.1 % 2 = 1 then _ else _) = _; rw [if_pos h]; rfl
  · left; apply fe_ext; show (if x.1 % 2 = 1 then _ else _) = _; rw [if_neg h]
theorem fabs_of_square {x y : Fe} (h : fmul x x = fmul y y) : fabs x = fabs y := by
  rcases square_eq h with rfl | rfl
  · rfl
  · exact fabs_neg y
theorem square_abs (x : Fe) : fmul (fabs x) (fabs x) = fmul x x := by
  rcases fabs_or x with h | h
  · rw [h]
  · rw [h, fneg_mul, fmul_comm x (fneg x), fneg_mul, fneg_neg]
end Go.Am.Seat
namespace Go.Am.Seat
open Go.Proofs Go.Am Go.Am.Num
set_option maxHeartbeats 4000000
def GM (M : Mem) : Prop := (M.take E.G).map onlyTab = mem5r
theorem only_sealed (b : Blk) : onlyTab (sealed b) = onlyTab b := by cases b <;> rfl
theorem GM.sealed {M : Mem} (h : GM M) : GM (M.map sealed) := by
  unfold GM at *
  rw [← h, ← List.map_take, List.map_map]
  exact List.map_congr_left fun b _ => only_sealed b
theorem GM.tab {M : Mem} (h : GM M) : TabP M := by
  unfold GM at h
  have h1 : ((M.take E.G).map onlyTab)[1]? = some (.tab 63 (int64s primeW)) := by rw [h]; rfl
  rw [List.getElem?_map] at h1
  obtain ⟨b, h2, h3⟩ := Option.map_eq_some_iff.1 h1
  rw [List.getElem?_take] at h2
  split at h2
  · unfold TabP
    rw [h2]
    cases b with
    | tab e cs => simp only [onlyTab] at h3; rw [h3]
    | dead => simp [onlyTab] at h3
    | row => simp [onlyTab] at h3
  · cases h2
theorem GM.len {M : Mem} (h : GM M) : E.G ≤ M.length := by
  unfold GM at h
  have h1 := congrArg List.length h
  rw [List.length_map, List.length_take] at h1
  have h2 : mem5r.length = E.G := rfl
  omega
def AnsR (self : Self) (f : FuncId) (args : List Value) (v : Value) : Prop := ∀ M : Mem, GM M → ainv E self f args M = some (v, M)
section
variable {self : Self} {f : FuncId} {args : List Value} {v : Value}
theorem Ans.r (h : Ans self f args v) : AnsR self f args v := fun M _ => h M
theorem AnsT.r (h : AnsT self f args v) : AnsR self f args v := fun M hM => h M hM.tab
theorem AnsG.r (h : AnsG self f args v) : AnsR self f args v := fun M hM => h M hM.len
theorem ans_ofR (ha : args.all lit2 = true) (hf : E.fast f = none) (hv : lit2 v = true) (h : ∃ m', self f args mem5r = some (v, m')) : AnsR self f args v := by
  intro M hM
  obtain ⟨m', h'⟩ := h
  exact ainv_lit ha hf (by rw [show (M.take E.G).map onlyTab = mem5r from hM]; exact h') hv
end
theorem neq48 {x y : Operand} {U V : Nat} (hU : U < 115792089237316195423570985008687907853269984665640564039457584007913129639936) (hV : V < 115792089237316195423570985008687907853269984665640564039457584007913129639936) : neqVal E.P 27 x y (el U) (el V) = some (.bool !(decide (U = V))) := by
  rw [el_arr, el_arr, ← el_inj hU hV]
  suffices key : ∀ u v : Nat → Nat, neqVal E.P 27 x y (arrK .u64 4 u) (arrK .u64 4 v) = some (.bool !([0, 1, 2, 3].all fun j => ((u j : Nat) : Int) == ((v j : Nat) : Int))) from key _ _
  intro u v
  have hq : E.P.eqGuardType E.P.depth 27 = false := by kernel_rfl
  have hg : pv E.P (eqGuard .neq 27 x y (arrK .u64 4 u) (arrK .u64 4 v)) = some () := by
    unfold eqGuard arrK
    simp only [Bool.not_true, Bool.false_eq_true, if_false]
    rw [pv_bind (a := E.P) rfl, pv_bind (a := E.P) rfl]
    rw [hq]
    rfl
  have hb : pv E.P (binOp .neq 27 (arrK .u64 4 u) (arrK .u64 4 v)) = some (.bool !([0, 1, 2, 3].all fun j => ((u j : Nat) : Int) == ((v j : Nat) : Int))) := by
    show pv E.P (Op.equal 27 (arrK .u64 4 u) (arrK .u64 4 v) >>= fun c => pure (Value.bool !c)) = _
    rw [pv_bind (pv_equalS u v)]
    rfl
  unfold neqVal
  rw [arrK_lit, arrK_lit]
  simp only [Bool.and_self, if_true]
  rw [pv_bind (a := Value.bool !([0, 1, 2, 3].all fun j => ((u j : Nat) : Int) == ((v j : Nat) : Int))) (by rw [pv_bind hg, hb])]
  rfl
noncomputable def neqFl (P : Program) (s : TypeId) (x y : Operand) (u v : Value) : Option Value := match u with
  | .int k a => (match v with
    | .int k' b => (match abin .neq k a k' b with
      | some w => some w
      | none => neqVal P s x y u v)
    | _ => neqVal P s x y u v)
  | _ => (match neqVal P s x y u v with
    | some w => some w
    | none => (match aeq P s u v with
      | some b => some (.bool !b)
      | none => none))
theorem afloat_neqV {P : Program} {T : List Value} {d : Option Tmp} {s t ty : TypeId} {x y : Operand} {pos : String} {af : Array Edge} {g : Option (Nat × Bool)} :
    afloat P T { dst := d, op := .binOp .neq s x y t, type := ty, pos := pos, after := af, guard := g } = neqFl P s x y (ev T x) (ev T y) := by
  unfold afloat neqFl
  simp only [apure_neqV]
  rfl
theorem neqFl_ef {x y : Operand} (u v : Fe) : neqFl E.P 27 x y (ef u) (ef v) = some (.bool !(decide (u = v))) := by
  have h := neq48 (x := x) (y := y) (p_lt4 u.2) (p_lt4 v.2)
  rw [dec_val]
  unfold neqFl ef
  rw [el_arr, el_arr] at *
  unfold arrK at h ⊢
  simp only [h]
theorem eqFl_ef {x y : Operand} (u v : Fe) : eqFl E.P 27 x y (ef u) (ef v) = some (.bool (decide (u = v))) := by
  have h := eql48 (x := x) (y := y) (p_lt4 u.2) (p_lt4 v.2)
  rw [dec_val]
  unfold eqFl ef
  rw [el_arr, el_arr] at *
  unfold arrK at h ⊢
  simp only [h]
noncomputable def rrt_0 : Array Oper := match Tryz.f18.body with
  | some (.seq (.region _ o _) _) => o
  | _ => #[]
noncomputable def lrt_0 : List Oper := match Tryz.f18.body with
  | some (.seq (.region _ o _) _) => o.toList
  | _ => []
theorem ert_0 : rrt_0.toList = lrt_0 := rfl
noncomputable def rrt_1 : Array Oper := match Tryz.f18.body with
  | some (.seq _ (.seq (.region _ o _) _)) => o
  | _ => #[]
noncomputable def lrt_1 : List Oper := match Tryz.f18.body with
  | some (.seq _ (.seq (.region _ o _) _)) => o.toList
  | _ => []
theorem ert_1 : rrt_1.toList = lrt_1 := rfl
theorem drt_1 {self : Self} {B : Nat} {T : List Value} {m : Mem} {lb : List (Nat × Nat)} {ls : Bool} : adrawN E self rrt_1 B rrt_1.toList 0 T m lb ls = adrawT E self rrt_1 B rrt_1.toList [(false, false), (false, false), (false, false), (false, false), (false, false), (false, false)] 0 T m lb ls := adraw_tab (by kernel_rfl)
theorem srt_1 : E.sr 1 rrt_1 = false := by kernel_rfl
theorem bodyrt : Tryz.f18.body = some (.seq (.region 0 rrt_0 false) (.seq (.region 1 rrt_1 true) .ret)) := rfl
-- ntmps 8
theorem rt_body {self : Self} {nf X : Nat} {m : Mem} (hX : X < P25519) (hmu : MulOk self) (hss : SquaresOk self) (hon : Ans self 42 [el X] (el (pw X (2 ^ 250 - 1)))) :
    ∃ m', abody E self nf 18 [el X] m = some (el (pw (pw X (2 ^ 250 - 1)) (2 ^ 2) * X % P25519), m') := by
  rw [abody_eqF (by kernel_rfl) Tryz.func18 bodyrt (by kernel_rfl) (Nat.le_of_ble_eq_true rfl)]
  rw [show Tryz.f18.ntmps = 8 from rfl]
  have b1 := box48 (wd 0 X) (wd 1 X) (wd 2 X) (wd 3 X) m
  generalize hA : m ++ [Blk.row false 27 (c4 (wd 0 X) (wd 1 X) (wd 2 X) (wd 3 X))] = A at b1
  have lA : A.length = m.length + 1 := by rw [← hA]; simp
  have b2 := alloc48 A
  rw [lA] at b2
  generalize hB : A ++ [Blk.row false 27 (c4 0 0 0 0)] = B at b2
  have lB : B.length = m.length + 2 := by rw [← hB]; simp [lA]
  have gx : B[m.length]? = some (.row false 27 (c4 (wd 0 X) (wd 1 X) (wd 2 X) (wd 3 X))) := by
    rw [← hB, List.getElem?_append_left (by omega), ← hA]; simp
  have gr : B[m.length + 1]? = some (.row false 27 (c4 0 0 0 0)) := by
    rw [← hB, List.getElem?_append_right (by omega), lA]; simp
  have lx : aload E.P 27 (.pointer (some ⟨m.length, 0, none⟩)) (B.map sealed) = some (st4 (wd 0 X) (wd 1 X) (wd 2 X) (wd 3 X)) := load48 (ro := true) (e := 27) (by rw [List.getElem?_map, gx]; rfl)
  have c5 := hss (pw X (2 ^ 250 - 1)) 2 (pw_lt _ _) (by omega)
  have c6 := hmu (pw (pw X (2 ^ 250 - 1)) (2 ^ 2)) X (pw_lt _ _) hX
  unfold Ans at c5 c6 hon
  rw [show (((2 : Nat)) : Int) = 2 from rfl] at c5
  generalize pw (pw X (2 ^ 250 - 1)) (2 ^ 2) * X % P25519 = Z at *
  generalize pw (pw X (2 ^ 250 - 1)) (2 ^ 2) = Y6 at *
  generalize pw X (2 ^ 250 - 1) = Y5 at *
  have st := store48 (a := wd 0 Z) (b := wd 1 Z) (c := wd 2 Z) (d := wd 3 Z) gr rfl
  have ld2 := load48 (m := B.set (m.length + 1) (.row false 27 (c4 (wd 0 Z) (wd 1 Z) (wd 2 Z) (wd 3 Z)))) (p := m.length + 1) (a := wd 0 Z) (b := wd 1 Z) (c := wd 2 Z) (d := wd 3 Z) (by rw [List.getElem?_set_self (lt_of_at gr)])
  rw [← el_st] at b1 lx st ld2
  simp only [↓drt_1, ↓srt_1, ert_0, ert_1, lrt_0, lrt_1, agd_none, gdAt, gdV_bool, gdV_undef, Tryz.f18, List.append_eq, List.cons_append, List.nil_append, apure_call1, apure_call2, apure_call3, bft, btf, acodeN, List.getElem?_toArray, List.getElem?_cons_zero, List.getElem?_cons_succ, aopsN, adrawT, cls, astep, aop, afloat, ev, nth_lst, get_lst, aput, setAt_lst, upd_at, init_zero, init_succ, init_nil, Nat.reduceLT, Nat.reduceEqDiff, reduceIte, abuiltin, alen, Option.map_some, Option.map_none, orElse_some, apure_add, apure_eqlV, eqlVal_str, eqlVal_bool, eqlVal_ptr, eqlVal_slice, eqlVal_wide, eqlVal_int, allT, ↓aop_eqlV, apure_neq, List.map_cons, List.map_nil, List.all_cons, List.all_nil, lit2, lit1, lit0, List.isEmpty_nil, bls, Bool.false_eq_true, if_true, if_false, List.length_map, beq_self_eq_true, uns, b1, b2, lx, callSs, wrSs, addr48, callMul, wrMul, ↓el_lit, callOn, wrOn, hon, c5, c6, st, ld2, finish, ares, aresL, ares1]
  exact ⟨_, rfl⟩
def fIn : Nat := 19681161376707505956807079304988542015446066515923890162744021073123829784752
def fI : Fe := ⟨fIn, by decide⟩
theorem fi_body {self : Self} {nf : Nat} : ∃ m', abody E self nf 16 [] mem5r = some (ef fI, m') := by
  have h : (abody E self nf 16 [] mem5r).map (·.1) = some (ef fI) := by kernel_rfl
  obtain ⟨⟨v, m'⟩, h1, h2⟩ := Option.map_eq_some_iff.1 h
  exact ⟨m', by rw [h1, ← h2]⟩
end Go.Am.Seat
namespace Go.Am.Seat
open Go.Proofs Go.Am Go.Am.Num
set_option maxHeartbeats 4000000
def rowE (x : Fe) : Blk := .row false 27 (c4 (wd 0 x.1) (wd 1 x.1) (wd 2 x.1) (wd 3 x.1))
def rowZ : Blk := .row false 27 (c4 0 0 0 0)
theorem boxE (x : Fe) (m : Mem) : abox E.P 27 (ef x) m = some (.pointer (some ⟨m.length, 0, none⟩), m ++ [rowE x]) := box48 _ _ _ _ m
theorem allocE (m : Mem) : aalloc E.P 27 m = some (.pointer (some ⟨m.length, 0, none⟩), m ++ [rowZ]) := alloc48 m
theorem loadE {m : Mem} {p : Nat} {x : Fe} (h : m[p]? = some (rowE x)) : aload E.P 27 (.pointer (some ⟨p, 0, none⟩)) m = some (ef x) := load48 (ro := false) (e := 27) h
theorem loadS {m : Mem} {p : Nat} {x : Fe} (h : m[p]? = some (rowE x)) : aload E.P 27 (.pointer (some ⟨p, 0, none⟩)) (m.map sealed) = some (ef x) := load48 (ro := true) (e := 27) (by rw [List.getElem?_map, h]; rfl)
theorem storeE {m : Mem} {p : Nat} {x : Fe} {y : Fe} (h : m[p]? = some (rowE y)) : astore E.P 27 (.pointer (some ⟨p, 0, none⟩)) (ef x) m = some (m.set p (rowE x)) := store48 (e := 27) h rfl
theorem storeZ {m : Mem} {p : Nat} {x : Fe} (h : m[p]? = some rowZ) : astore E.P 27 (.pointer (some ⟨p, 0, none⟩)) (ef x) m = some (m.set p (rowE x)) := store48 (e := 27) h rfl
theorem layE (x : Fe) : astore E.P 27 (.pointer (some ⟨0, 0, none⟩)) (ef x) [rowZ] = some [rowE x] := lay48 x.1
theorem zE : zeroB E.P 27 = some rowZ := z48
theorem callRt : callableB E.P 18 = true := by kernel_rfl
theorem wrRt : E.wr 18 = false := by kernel_rfl
theorem callFi : callableB E.P 16 = true := by kernel_rfl
theorem wrFi : E.wr 16 = false := by kernel_rfl
noncomputable def rra_0 : Array Oper := match Tryz.f8.body with
  | some (.seq (.region _ o _) _) => o
  | _ => #[]
noncomputable def lra_0 : List Oper := match Tryz.f8.body with
  | some (.seq (.region _ o _) _) => o.toList
  | _ => []
theorem era_0 : rra_0.toList = lra_0 := rfl
noncomputable def rra_1 : Array Oper := match Tryz.f8.body with
  | some (.seq _ (.seq (.region _ o _) _)) => o
  | _ => #[]
noncomputable def lra_1 : List Oper := match Tryz.f8.body with
  | some (.seq _ (.seq (.region _ o _) _)) => o.toList
  | _ => []
theorem era_1 : rra_1.toList = lra_1 := rfl
theorem qra_1 : E.sr 1 rra_1 = true := by kernel_rfl
theorem zra_1 : E.mkr 1 rra_1 = false := by kernel_rfl
theorem qra_101 : srTab rra_1 = [(27, some (27, .tmp 13))] := by kernel_rfl
noncomputable def rra_2 : Array Oper := match Tryz.f8.body with
  | some (.seq _ (.seq _ (.seq (.region _ o _) _))) => o
  | _ => #[]
noncomputable def lra_2 : List Oper := match Tryz.f8.body with
  | some (.seq _ (.seq _ (.seq (.region _ o _) _))) => o.toList
  | _ => []
theorem era_2 : rra_2.toList = lra_2 := rfl
theorem qra_2 : E.sr 2 rra_2 = true := by kernel_rfl
theorem zra_2 : E.mkr 2 rra_2 = false := by kernel_rfl
theorem qra_102 : srTab rra_2 = [(27, some (27, .tmp 17))] := by kernel_rfl
noncomputable def rra_3 : Array Oper := match Tryz.f8.body with
  | some (.seq _ (.seq _ (.seq _ (.seq (.region _ o _) _)))) => o
  | _ => #[]
noncomputable def lra_3 : List Oper := match Tryz.f8.body with
  | some (.seq _ (.seq _ (.seq _ (.seq (.region _ o _) _)))) => o.toList
  | _ => []
theorem era_3 : rra_3.toList = lra_3 := rfl
theorem qra_3 : E.sr 3 rra_3 = true := by kernel_rfl
theorem zra_3 : E.mkr 3 rra_3 = false := by kernel_rfl
theorem qra_103 : srTab rra_3 = [(27, some (27, .tmp 25))] := by kernel_rfl
noncomputable def rra_4 : Array Oper := match Tryz.f8.body with
  | some (.seq _ (.seq _ (.seq _ (.seq _ (.seq (.region _ o _) _))))) => o
  | _ => #[]
noncomputable def lra_4 : List Oper := match Tryz.f8.body with
  | some (.seq _ (.seq _ (.seq _ (.seq _ (.seq (.region _ o _) _))))) => o.toList
  | _ => []
theorem era_4 : rra_4.toList = lra_4 := rfl
theorem qra_4 : E.sr 4 rra_4 = true := by kernel_rfl
theorem zra_4 : E.mkr 4 rra_4 = false := by kernel_rfl
theorem qra_104 : srTab rra_4 = [(27, some (27, .tmp 29))] := by kernel_rfl
noncomputable def rra_5 : Array Oper := match Tryz.f8.body with
  | some (.seq _ (.seq _ (.seq _ (.seq _ (.seq _ (.seq (.seq (.region _ o _) _) _)))))) => o
  | _ => #[]
noncomputable def lra_5 : List Oper := match Tryz.f8.body with
  | some (.seq _ (.seq _ (.seq _ (.seq _ (.seq _ (.seq (.seq (.region _ o _) _) _)))))) => o.toList
  | _ => []
theorem era_5 : rra_5.toList = lra_5 := rfl
theorem gra_5_3 {T : List Value} {dd : Option Tmp} {op : Op} {ty : TypeId} {pos : String} {af : Array Edge} {want : Bool} : agd rra_5 T { dst := dd, op := op, type := ty, pos := pos, after := af, guard := some (3, want) } = gdAt T 33 want := agd_at (by kernel_rfl)
theorem dra_5 {self : Self} {B : Nat} {T : List Value} {m : Mem} {lb : List (Nat × Nat)} {ls : Bool} : adrawN E self rra_5 B rra_5.toList 0 T m lb ls = adrawT E self rra_5 B rra_5.toList [(false, false), (false, false), (false, false), (false, false), (false, false), (false, false), (false, false), (false, false), (false, false), (false, false)] 0 T m lb ls := adraw_tab (by kernel_rfl)
theorem sra_5 : E.sr 5 rra_5 = false := by kernel_rfl
noncomputable def rra_6 : Array Oper := match Tryz.f8.body with
  | some (.seq _ (.seq _ (.seq _ (.seq _ (.seq _ (.seq (.seq _ (.cond _ (.region _ o _) _)) _)))))) => o
  | _ => #[]
noncomputable def lra_6 : List Oper := match Tryz.f8.body with
  | some (.seq _ (.seq _ (.seq _ (.seq _ (.seq _ (.seq (.seq _ (.cond _ (.region _ o _) _)) _)))))) => o.toList
  | _ => []
theorem era_6 : rra_6.toList = lra_6 := rfl
theorem dra_6 {self : Self} {B : Nat} {T : List Value} {m : Mem} {lb : List (Nat × Nat)} {ls : Bool} : adrawN E self rra_6 B rra_6.toList 0 T m lb ls = adrawT E self rra_6 B rra_6.toList [(false, false), (false, false), (false, false), (false, false)] 0 T m lb ls := adraw_tab (by kernel_rfl)
theorem sra_6 : E.sr 6 rra_6 = false := by kernel_rfl
noncomputable def rra_7 : Array Oper := match Tryz.f8.body with
  | some (.seq _ (.seq _ (.seq _ (.seq _ (.seq _ (.seq _ (.seq (.region _ o _) _))))))) => o
  | _ => #[]
noncomputable def lra_7 : List Oper := match Tryz.f8.body with
  | some (.seq _ (.seq _ (.seq _ (.seq _ (.seq _ (.seq _ (.seq (.region _ o _) _))))))) => o.toList
  | _ => []
theorem era_7 : rra_7.toList = lra_7 := rfl
theorem gra_7_5 {T : List Value} {dd : Option Tmp} {op : Op} {ty : TypeId} {pos : String} {af : Array Edge} {want : Bool} : agd rra_7 T { dst := dd, op := op, type := ty, pos := pos, after := af, guard := some (5, want) } = gdAt T 48 want := agd_at (by kernel_rfl)
theorem dra_7 {self : Self} {B : Nat} {T : List Value} {m : Mem} {lb : List (Nat × Nat)} {ls : Bool} : adrawN E self rra_7 B rra_7.toList 0 T m lb ls = adrawT E self rra_7 B rra_7.toList [(false, false), (false, false), (false, false), (false, false), (false, false), (false, false), (false, true), (false, false), (false, false), (false, false), (false, false), (false, false), (false, false)] 0 T m lb ls := adraw_tab (by kernel_rfl)
theorem sra_7 : E.sr 7 rra_7 = false := by kernel_rfl
theorem bodyra : Tryz.f8.body = some (.seq (.region 0 rra_0 false) (.seq (.region 1 rra_1 true) (.seq (.region 2 rra_2 true) (.seq (.region 3 rra_3 true) (.seq (.region 4 rra_4 true) (.seq (.seq (.region 5 rra_5 true) (.cond (.tmp 39) (.region 6 rra_6 true) .skip)) (.seq (.region 7 rra_7 true) .ret))))))) := rfl
-- ntmps 54
section
variable {self : Self} {nf : Nat} {F : Nat → Value} {B : Mem} {rR : Blk} {pa pb pc pu pv pw' pr : Nat} {vU vV vC vS vR vA vB vW : Value}
theorem ra0 {m A1 A2 : Mem} (i0 : F 0 = vU) (i1 : F 1 = vV) (b1 : abox E.P 27 vU m = some (.pointer (some ⟨pu, 0, none⟩), A1)) (b2 : abox E.P 27 vV A1 = some (.pointer (some ⟨pv, 0, none⟩), A2)) (b3 : aalloc E.P 27 A2 = some (.pointer (some ⟨pr, 0, none⟩), B)) :
    ∃ F', acodeN E self nf (.region 0 rra_0 false) (lst F 54) m = some (.normal, lst F' 54, B) ∧ F' 2 = .pointer (some ⟨pu, 0, none⟩) ∧ F' 3 = .pointer (some ⟨pv, 0, none⟩) ∧ F' 4 = .pointer (some ⟨pr, 0, none⟩) := by
  simp only [↓dra_5, ↓dra_6, ↓dra_7, ↓sra_5, ↓sra_6, ↓sra_7, ↓zra_1, ↓zra_2, ↓zra_3, ↓zra_4, qra_1, qra_101, qra_102, qra_103, qra_104, qra_2, qra_3, qra_4, era_0, era_1, era_2, era_3, era_4, era_5, era_6, era_7, lra_0, lra_1, lra_2, lra_3, lra_4, lra_5, lra_6, lra_7, gra_5_3, gra_7_5, agd_none, gdAt, gdV_bool, gdV_undef, Tryz.f8, List.append_eq, List.cons_append, List.nil_append, apure_call1, apure_call2, apure_call3, bft, btf, acodeN, List.getElem?_toArray, List.getElem?_cons_zero, List.getElem?_cons_succ, aopsN, adrawT, cls, astep, aop, afloat, ev, nth_lst, get_lst, aput, setAt_lst, upd_at, init_zero, init_succ, init_nil, Nat.reduceLT, Nat.reduceEqDiff, reduceIte, abuiltin, alen, Option.map_some, Option.map_none, orElse_some, apure_add, apure_eqlV, eqlVal_str, eqlVal_bool, eqlVal_ptr, eqlVal_slice, eqlVal_wide, eqlVal_int, allT, ↓aop_eqlV, apure_neq, List.map_cons, List.map_nil, List.all_cons, List.all_nil, lit2, lit1, lit0, List.isEmpty_nil, bls, Bool.false_eq_true, if_true, if_false, List.length_map, beq_self_eq_true, uns, i0, i1, b1, b2, b3]
  exact ⟨_, rfl, by simp only [upd_at, Nat.reduceEqDiff, reduceIte], by simp only [upd_at, Nat.reduceEqDiff, reduceIte], by simp only [upd_at, Nat.reduceEqDiff, reduceIte]⟩
theorem ra1 (ha : F 3 = .pointer (some ⟨pa, 0, none⟩)) (la : aload E.P 27 (.pointer (some ⟨pa, 0, none⟩)) (B.map sealed) = some vA) (da : decide (pa < B.length) = true) (dG : decide (E.G ≤ B.length) = true) (l1 : lit2 vA = true) (l4 : lit2 vA = true) (l2 : lit2 vS = true) (l3 : lit2 vR = true) (c1 : ∀ M, ainv E self 30 [vA] M = some (vS, M)) (c2 : ∀ M, ainv E self 22 [vS, vA] M = some (vR, M)) (w1 : astore E.P 27 (.pointer (some ⟨0, 0, none⟩)) vR [rowZ] = some [rR]) :
    ∃ F', acodeN E self nf (.region 1 rra_1 true) (lst F 54) B = some (.normal, lst F' 54, B ++ [rR]) ∧ F' 6 = .pointer (some ⟨B.length, 0, none⟩) ∧ F' 2 = F 2 ∧ F' 3 = F 3 ∧ F' 4 = F 4 := by
  simp only [↓dra_5, ↓dra_6, ↓dra_7, ↓sra_5, ↓sra_6, ↓sra_7, ↓zra_1, ↓zra_2, ↓zra_3, ↓zra_4, qra_1, qra_101, qra_102, qra_103, qra_104, qra_2, qra_3, qra_4, era_0, era_1, era_2, era_3, era_4, era_5, era_6, era_7, lra_0, lra_1, lra_2, lra_3, lra_4, lra_5, lra_6, lra_7, gra_5_3, gra_7_5, agd_none, gdAt, gdV_bool, gdV_undef, Tryz.f8, List.append_eq, List.cons_append, List.nil_append, apure_call1, apure_call2, apure_call3, bft, btf, acodeN, List.getElem?_toArray, List.getElem?_cons_zero, List.getElem?_cons_succ, aopsN, adrawT, cls, astep, aop, afloat, ev, nth_lst, get_lst, aput, setAt_lst, upd_at, init_zero, init_succ, init_nil, Nat.reduceLT, Nat.reduceEqDiff, reduceIte, abuiltin, alen, Option.map_some, Option.map_none, orElse_some, apure_add, apure_eqlV, eqlVal_str, eqlVal_bool, eqlVal_ptr, eqlVal_slice, eqlVal_wide, eqlVal_int, allT, ↓aop_eqlV, apure_neq, List.map_cons, List.map_nil, List.all_cons, List.all_nil, lit2, lit1, lit0, List.isEmpty_nil, bls, Bool.false_eq_true, if_true, if_false, List.length_map, beq_self_eq_true, uns, capsLit0, asr, asrT, contents, content, belowB, isCall, laterOk, eq_self, decide_true, Bool.and_self, ha, la, da, dG, ↓l1, ↓l2, ↓l3, ↓l4, callSq, wrSq, addr48, c1, callMul, wrMul, c2, zE, w1, Nat.add_zero]
  exact ⟨_, rfl, by simp only [upd_at, Nat.reduceEqDiff, reduceIte, Nat.zero_add], by simp only [upd_at, Nat.reduceEqDiff, reduceIte], by simp only [upd_at, Nat.reduceEqDiff, reduceIte, ha], by simp only [upd_at, Nat.reduceEqDiff, reduceIte]⟩
theorem ra2 (ha : F 6 = .pointer (some ⟨pa, 0, none⟩)) (hb : F 3 = .pointer (some ⟨pb, 0, none⟩)) (la : aload E.P 27 (.pointer (some ⟨pa, 0, none⟩)) (B.map sealed) = some vA) (da : decide (pa < B.length) = true) (lb : aload E.P 27 (.pointer (some ⟨pb, 0, none⟩)) (B.map sealed) = some vB) (db : decide (pb < B.length) = true) (dG : decide (E.G ≤ B.length) = true) (l1 : lit2 vA = true) (l4 : lit2 vB = true) (l2 : lit2 vS = true) (l3 : lit2 vR = true) (c1 : ∀ M, ainv E self 30 [vA] M = some (vS, M)) (c2 : ∀ M, ainv E self 22 [vS, vB] M = some (vR, M)) (w1 : astore E.P 27 (.pointer (some ⟨0, 0, none⟩)) vR [rowZ] = some [rR]) :
    ∃ F', acodeN E self nf (.region 2 rra_2 true) (lst F 54) B = some (.normal, lst F' 54, B ++ [rR]) ∧ F' 7 = .pointer (some ⟨B.length, 0, none⟩) ∧ F' 2 = F 2 ∧ F' 3 = F 3 ∧ F' 4 = F 4 ∧ F' 6 = F 6 := by
  simp only [↓dra_5, ↓dra_6, ↓dra_7, ↓sra_5, ↓sra_6, ↓sra_7, ↓zra_1, ↓zra_2, ↓zra_3, ↓zra_4, qra_1, qra_101, qra_102, qra_103, qra_104, qra_2, qra_3, qra_4, era_0, era_1, era_2, era_3, era_4, era_5, era_6, era_7, lra_0, lra_1, lra_2, lra_3, lra_4, lra_5, lra_6, lra_7, gra_5_3, gra_7_5, agd_none, gdAt, gdV_bool, gdV_undef, Tryz.f8, List.append_eq, List.cons_append, List.nil_append, apure_call1, apure_call2, apure_call3, bft, btf, acodeN, List.getElem?_toArray, List.getElem?_cons_zero, List.getElem?_cons_succ, aopsN, adrawT, cls, astep, aop, afloat, ev, nth_lst, get_lst, aput, setAt_lst, upd_at, init_zero, init_succ, init_nil, Nat.reduceLT, Nat.reduceEqDiff, reduceIte, abuiltin, alen, Option.map_some, Option.map_none, orElse_some, apure_add, apure_eqlV, eqlVal_str, eqlVal_bool, eqlVal_ptr, eqlVal_slice, eqlVal_wide, eqlVal_int, allT, ↓aop_eqlV, apure_neq, List.map_cons, List.map_nil, List.all_cons, List.all_nil, lit2, lit1, lit0, List.isEmpty_nil, bls, Bool.false_eq_true, if_true, if_false, List.length_map, beq_self_eq_true, uns, capsLit0, asr, asrT, contents, content, belowB, isCall, laterOk, eq_self, decide_true, Bool.and_self, ha, la, da, dG, ↓l1, ↓l2, ↓l3, ↓l4, callSq, wrSq, addr48, c1, callMul, wrMul, c2, zE, w1, Nat.add_zero, hb, lb, db]
  exact ⟨_, rfl, by simp only [upd_at, Nat.reduceEqDiff, reduceIte, Nat.zero_add], by simp only [upd_at, Nat.reduceEqDiff, reduceIte], by simp only [upd_at, Nat.reduceEqDiff, reduceIte, hb], by simp only [upd_at, Nat.reduceEqDiff, reduceIte], by simp only [upd_at, Nat.reduceEqDiff, reduceIte, ha]⟩
theorem ra4 (ha : F 8 = .pointer (some ⟨pa, 0, none⟩)) (hb : F 3 = .pointer (some ⟨pb, 0, none⟩)) (la : aload E.P 27 (.pointer (some ⟨pa, 0, none⟩)) (B.map sealed) = some vA) (da : decide (pa < B.length) = true) (lb : aload E.P 27 (.pointer (some ⟨pb, 0, none⟩)) (B.map sealed) = some vB) (db : decide (pb < B.length) = true) (dG : decide (E.G ≤ B.length) = true) (l1 : lit2 vA = true) (l4 : lit2 vB = true) (l2 : lit2 vS = true) (l3 : lit2 vR = true) (c1 : ∀ M, ainv E self 30 [vA] M = some (vS, M)) (c2 : ∀ M, ainv E self 22 [vS, vB] M = some (vR, M)) (w1 : astore E.P 27 (.pointer (some ⟨0, 0, none⟩)) vR [rowZ] = some [rR]) :
    ∃ F', acodeN E self nf (.region 4 rra_4 true) (lst F 54) B = some (.normal, lst F' 54, B ++ [rR]) ∧ F' 9 = .pointer (some ⟨B.length, 0, none⟩) ∧ F' 2 = F 2 ∧ F' 3 = F 3 ∧ F' 4 = F 4 ∧ F' 8 = F 8 := by
  simp only [↓dra_5, ↓dra_6, ↓dra_7, ↓sra_5, ↓sra_6, ↓sra_7, ↓zra_1, ↓zra_2, ↓zra_3, ↓zra_4, qra_1, qra_101, qra_102, qra_103, qra_104, qra_2, qra_3, qra_4, era_0, era_1, era_2, era_3, era_4, era_5, era_6, era_7, lra_0, lra_1, lra_2, lra_3, lra_4, lra_5, lra_6, lra_7, gra_5_3, gra_7_5, agd_none, gdAt, gdV_bool, gdV_undef, Tryz.f8, List.append_eq, List.cons_append, List.nil_append, apure_call1, apure_call2, apure_call3, bft, btf, acodeN, List.getElem?_toArray, List.getElem?_cons_zero, List.getElem?_cons_succ, aopsN, adrawT, cls, astep, aop, afloat, ev, nth_lst, get_lst, aput, setAt_lst, upd_at, init_zero, init_succ, init_nil, Nat.reduceLT, Nat.reduceEqDiff, reduceIte, abuiltin, alen, Option.map_some, Option.map_none, orElse_some, apure_add, apure_eqlV, eqlVal_str, eqlVal_bool, eqlVal_ptr, eqlVal_slice, eqlVal_wide, eqlVal_int, allT, ↓aop_eqlV, apure_neq, List.map_cons, List.map_nil, List.all_cons, List.all_nil, lit2, lit1, lit0, List.isEmpty_nil, bls, Bool.false_eq_true, if_true, if_false, List.length_map, beq_self_eq_true, uns, capsLit0, asr, asrT, contents, content, belowB, isCall, laterOk, eq_self, decide_true, Bool.and_self, ha, la, da, dG, ↓l1, ↓l2, ↓l3, ↓l4, callSq, wrSq, addr48, c1, callMul, wrMul, c2, zE, w1, Nat.add_zero, hb, lb, db]
  exact ⟨_, rfl, by simp only [upd_at, Nat.reduceEqDiff, reduceIte, Nat.zero_add], by simp only [upd_at, Nat.reduceEqDiff, reduceIte], by simp only [upd_at, Nat.reduceEqDiff, reduceIte, hb], by simp only [upd_at, Nat.reduceEqDiff, reduceIte], by simp only [upd_at, Nat.reduceEqDiff, reduceIte, ha]⟩
theorem ra3 (h2 : F 2 = .pointer (some ⟨pu, 0, none⟩)) (h6 : F 6 = .pointer (some ⟨pa, 0, none⟩)) (h7 : F 7 = .pointer (some ⟨pb, 0, none⟩)) (lu : aload E.P 27 (.pointer (some ⟨pu, 0, none⟩)) (B.map sealed) = some vU) (la : aload E.P 27 (.pointer (some ⟨pa, 0, none⟩)) (B.map sealed) = some vA) (lb : aload E.P 27 (.pointer (some ⟨pb, 0, none⟩)) (B.map sealed) = some vB) (du : decide (pu < B.length) = true) (da : decide (pa < B.length) = true) (db : decide (pb < B.length) = true) (dG : decide (E.G ≤ B.length) = true)
    (l1 : lit2 vU = true) (l2 : lit2 vA = true) (l3 : lit2 vB = true) (l4 : lit2 vC = true) (l5 : lit2 vS = true) (l6 : lit2 vW = true) (l7 : lit2 vR = true)
    (c1 : ∀ M, ainv E self 22 [vU, vA] M = some (vC, M)) (c2 : ∀ M, ainv E self 22 [vU, vB] M = some (vS, M)) (c3 : ∀ M, ainv E self 18 [vS] M = some (vW, M)) (c4' : ∀ M, ainv E self 22 [vC, vW] M = some (vR, M)) (w1 : astore E.P 27 (.pointer (some ⟨0, 0, none⟩)) vR [rowZ] = some [rR]) :
    ∃ F', acodeN E self nf (.region 3 rra_3 true) (lst F 54) B = some (.normal, lst F' 54, B ++ [rR]) ∧ F' 8 = .pointer (some ⟨B.length, 0, none⟩) ∧ F' 2 = F 2 ∧ F' 3 = F 3 ∧ F' 4 = F 4 := by
  simp only [↓dra_5, ↓dra_6, ↓dra_7, ↓sra_5, ↓sra_6, ↓sra_7, ↓zra_1, ↓zra_2, ↓zra_3, ↓zra_4, qra_1, qra_101, qra_102, qra_103, qra_104, qra_2, qra_3, qra_4, era_0, era_1, era_2, era_3, era_4, era_5, era_6, era_7, lra_0, lra_1, lra_2, lra_3, lra_4, lra_5, lra_6, lra_7, gra_5_3, gra_7_5, agd_none, gdAt, gdV_bool, gdV_undef, Tryz.f8, List.append_eq, List.cons_append, List.nil_append, apure_call1, apure_call2, apure_call3, bft, btf, acodeN, List.getElem?_toArray, List.getElem?_cons_zero, List.getElem?_cons_succ, aopsN, adrawT, cls, astep, aop, afloat, ev, nth_lst, get_lst, aput, setAt_lst, upd_at, init_zero, init_succ, init_nil, Nat.reduceLT, Nat.reduceEqDiff, reduceIte, abuiltin, alen, Option.map_some, Option.map_none, orElse_some, apure_add, apure_eqlV, eqlVal_str, eqlVal_bool, eqlVal_ptr, eqlVal_slice, eqlVal_wide, eqlVal_int, allT, ↓aop_eqlV, apure_neq, List.map_cons, List.map_nil, List.all_cons, List.all_nil, lit2, lit1, lit0, List.isEmpty_nil, bls, Bool.false_eq_true, if_true, if_false, List.length_map, beq_self_eq_true, uns, capsLit0, asr, asrT, contents, content, belowB, isCall, laterOk, eq_self, decide_true, Bool.and_self, h2, h6, h7, lu, la, lb, du, da, db, dG, ↓l1, ↓l2, ↓l3, ↓l4, ↓l5, ↓l6, ↓l7, callRt, wrRt, addr48, c1, callMul, wrMul, c2, c3, c4', zE, w1, Nat.add_zero]
  exact ⟨_, rfl, by simp only [upd_at, Nat.reduceEqDiff, reduceIte, Nat.zero_add], by simp only [upd_at, Nat.reduceEqDiff, reduceIte, h2], by simp only [upd_at, Nat.reduceEqDiff, reduceIte], by simp only [upd_at, Nat.reduceEqDiff, reduceIte]⟩
theorem ra5f (h9 : F 9 = .pointer (some ⟨pa, 0, none⟩)) (h2 : F 2 = .pointer (some ⟨pu, 0, none⟩)) (la : aload E.P 27 (.pointer (some ⟨pa, 0, none⟩)) (B.map sealed) = some vA) (lu : aload E.P 27 (.pointer (some ⟨pu, 0, none⟩)) (B.map sealed) = some vU) (q1 : ∀ x y, neqFl E.P 27 x y vA vU = some (.bool false)) :
    ∃ F', acodeN E self nf (.region 5 rra_5 true) (lst F 54) B = some (.normal, lst F' 54, B) ∧ F' 39 = .bool false ∧ F' 2 = F 2 ∧ F' 4 = F 4 ∧ F' 8 = F 8 ∧ F' 9 = F 9 := by
  simp only [↓dra_5, ↓dra_6, ↓dra_7, ↓sra_5, ↓sra_6, ↓sra_7, ↓zra_1, ↓zra_2, ↓zra_3, ↓zra_4, qra_1, qra_101, qra_102, qra_103, qra_104, qra_2, qra_3, qra_4, era_0, era_1, era_2, era_3, era_4, era_5, era_6, era_7, lra_0, lra_1, lra_2, lra_3, lra_4, lra_5, lra_6, lra_7, gra_5_3, gra_7_5, agd_none, gdAt, gdV_bool, gdV_undef, Tryz.f8, List.append_eq, List.cons_append, List.nil_append, apure_call1, apure_call2, apure_call3, bft, btf, acodeN, List.getElem?_toArray, List.getElem?_cons_zero, List.getElem?_cons_succ, aopsN, adrawT, cls, astep, aop, afloat, ev, nth_lst, get_lst, aput, setAt_lst, upd_at, init_zero, init_succ, init_nil, Nat.reduceLT, Nat.reduceEqDiff, reduceIte, abuiltin, alen, Option.map_some, Option.map_none, orElse_some, apure_add, apure_eqlV, eqlVal_str, eqlVal_bool, eqlVal_ptr, eqlVal_slice, eqlVal_wide, eqlVal_int, allT, ↓aop_eqlV, apure_neq, List.map_cons, List.map_nil, List.all_cons, List.all_nil, lit2, lit1, lit0, List.isEmpty_nil, bls, Bool.false_eq_true, if_true, if_false, List.length_map, beq_self_eq_true, uns, ↓afloat_neqV, h9, h2, la, lu, q1]
  exact ⟨_, rfl, by simp only [upd_at, Nat.reduceEqDiff, reduceIte], by simp only [upd_at, Nat.reduceEqDiff, reduceIte, h2], by simp only [upd_at, Nat.reduceEqDiff, reduceIte], by simp only [upd_at, Nat.reduceEqDiff, reduceIte], by simp only [upd_at, Nat.reduceEqDiff, reduceIte, h9]⟩
theorem ra5t {b : Bool} (h9 : F 9 = .pointer (some ⟨pa, 0, none⟩)) (h2 : F 2 = .pointer (some ⟨pu, 0, none⟩)) (la : aload E.P 27 (.pointer (some ⟨pa, 0, none⟩)) (B.map sealed) = some vA) (lu : aload E.P 27 (.pointer (some ⟨pu, 0, none⟩)) (B.map sealed) = some vU) (q1 : ∀ x y, neqFl E.P 27 x y vA vU = some (.bool true))
    (ci : ainv E self 16 [] (B.map sealed) = some (vS, B.map sealed)) (cm : ∀ M, ainv E self 22 [vU, vS] M = some (vW, M)) (q2 : ∀ x y, neqFl E.P 27 x y vA vW = some (.bool b)) :
    ∃ F', acodeN E self nf (.region 5 rra_5 true) (lst F 54) B = some (.normal, lst F' 54, B) ∧ F' 39 = .bool b ∧ F' 2 = F 2 ∧ F' 4 = F 4 ∧ F' 8 = F 8 ∧ F' 9 = F 9 := by
  simp only [↓dra_5, ↓dra_6, ↓dra_7, ↓sra_5, ↓sra_6, ↓sra_7, ↓zra_1, ↓zra_2, ↓zra_3, ↓zra_4, qra_1, qra_101, qra_102, qra_103, qra_104, qra_2, qra_3, qra_4, era_0, era_1, era_2, era_3, era_4, era_5, era_6, era_7, lra_0, lra_1, lra_2, lra_3, lra_4, lra_5, lra_6, lra_7, gra_5_3, gra_7_5, agd_none, gdAt, gdV_bool, gdV_undef, Tryz.f8, List.append_eq, List.cons_append, List.nil_append, apure_call1, apure_call2, apure_call3, bft, btf, acodeN, List.getElem?_toArray, List.getElem?_cons_zero, List.getElem?_cons_succ, aopsN, adrawT, cls, astep, aop, afloat, ev, nth_lst, get_lst, aput, setAt_lst, upd_at, init_zero, init_succ, init_nil, Nat.reduceLT, Nat.reduceEqDiff, reduceIte, abuiltin, alen, Option.map_some, Option.map_none, orElse_some, apure_add, apure_eqlV, eqlVal_str, eqlVal_bool, eqlVal_ptr, eqlVal_slice, eqlVal_wide, eqlVal_int, allT, ↓aop_eqlV, apure_neq, List.map_cons, List.map_nil, List.all_cons, List.all_nil, lit2, lit1, lit0, List.isEmpty_nil, bls, Bool.false_eq_true, if_true, if_false, List.length_map, beq_self_eq_true, uns, ↓afloat_neqV, h9, h2, la, lu, q1, callFi, wrFi, addr48, ci, callMul, wrMul, cm, q2]
  exact ⟨_, rfl, by simp only [upd_at, Nat.reduceEqDiff, reduceIte], by simp only [upd_at, Nat.reduceEqDiff, reduceIte, h2], by simp only [upd_at, Nat.reduceEqDiff, reduceIte], by simp only [upd_at, Nat.reduceEqDiff, reduceIte], by simp only [upd_at, Nat.reduceEqDiff, reduceIte, h9]⟩
theorem ra6 {N : Mem} (h8 : F 8 = .pointer (some ⟨pr, 0, none⟩)) (lr : aload E.P 27 (.pointer (some ⟨pr, 0, none⟩)) (B.map sealed) = some vR) (ci : ainv E self 16 [] (B.map sealed) = some (vS, B.map sealed)) (cm : ∀ M, ainv E self 22 [vR, vS] M = some (vW, M)) (st : astore E.P 27 (.pointer (some ⟨pr, 0, none⟩)) vW B = some N) :
    ∃ F', acodeN E self nf (.region 6 rra_6 true) (lst F 54) B = some (.normal, lst F' 54, N) ∧ F' 2 = F 2 ∧ F' 4 = F 4 ∧ F' 8 = F 8 ∧ F' 9 = F 9 := by
  simp only [↓dra_5, ↓dra_6, ↓dra_7, ↓sra_5, ↓sra_6, ↓sra_7, ↓zra_1, ↓zra_2, ↓zra_3, ↓zra_4, qra_1, qra_101, qra_102, qra_103, qra_104, qra_2, qra_3, qra_4, era_0, era_1, era_2, era_3, era_4, era_5, era_6, era_7, lra_0, lra_1, lra_2, lra_3, lra_4, lra_5, lra_6, lra_7, gra_5_3, gra_7_5, agd_none, gdAt, gdV_bool, gdV_undef, Tryz.f8, List.append_eq, List.cons_append, List.nil_append, apure_call1, apure_call2, apure_call3, bft, btf, acodeN, List.getElem?_toArray, List.getElem?_cons_zero, List.getElem?_cons_succ, aopsN, adrawT, cls, astep, aop, afloat, ev, nth_lst, get_lst, aput, setAt_lst, upd_at, init_zero, init_succ, init_nil, Nat.reduceLT, Nat.reduceEqDiff, reduceIte, abuiltin, alen, Option.map_some, Option.map_none, orElse_some, apure_add, apure_eqlV, eqlVal_str, eqlVal_bool, eqlVal_ptr, eqlVal_slice, eqlVal_wide, eqlVal_int, allT, ↓aop_eqlV, apure_neq, List.map_cons, List.map_nil, List.all_cons, List.all_nil, lit2, lit1, lit0, List.isEmpty_nil, bls, Bool.false_eq_true, if_true, if_false, List.length_map, beq_self_eq_true, uns, h8, lr, callFi, wrFi, addr48, ci, callMul, wrMul, cm, st]
  exact ⟨_, rfl, by simp only [upd_at, Nat.reduceEqDiff, reduceIte], by simp only [upd_at, Nat.reduceEqDiff, reduceIte], by simp only [upd_at, Nat.reduceEqDiff, reduceIte, h8], by simp only [upd_at, Nat.reduceEqDiff, reduceIte]⟩
theorem ra7t {N : Mem} (h8 : F 8 = .pointer (some ⟨pr, 0, none⟩)) (h9 : F 9 = .pointer (some ⟨pa, 0, none⟩)) (h2 : F 2 = .pointer (some ⟨pu, 0, none⟩)) (h4 : F 4 = .pointer (some ⟨pc, 0, none⟩)) (lr : aload E.P 27 (.pointer (some ⟨pr, 0, none⟩)) (B.map sealed) = some vR) (la : aload E.P 27 (.pointer (some ⟨pa, 0, none⟩)) (B.map sealed) = some vA) (lu : aload E.P 27 (.pointer (some ⟨pu, 0, none⟩)) (B.map sealed) = some vU)
    (ca : ainv E self 31 [vR] (B.map sealed) = some (vW, B.map sealed)) (q1 : ∀ x y, eqFl E.P 27 x y vA vU = some (.bool true)) (st : astore E.P 27 (.pointer (some ⟨pc, 0, none⟩)) vW B = some N) :
    ∃ F', acodeN E self nf (.region 7 rra_7 true) (lst F 54) B = some (.normal, lst F' 54, N) ∧ F' 4 = F 4 ∧ F' 5 = .bool true := by
  simp only [↓dra_5, ↓dra_6, ↓dra_7, ↓sra_5, ↓sra_6, ↓sra_7, ↓zra_1, ↓zra_2, ↓zra_3, ↓zra_4, qra_1, qra_101, qra_102, qra_103, qra_104, qra_2, qra_3, qra_4, era_0, era_1, era_2, era_3, era_4, era_5, era_6, era_7, lra_0, lra_1, lra_2, lra_3, lra_4, lra_5, lra_6, lra_7, gra_5_3, gra_7_5, agd_none, gdAt, gdV_bool, gdV_undef, Tryz.f8, List.append_eq, List.cons_append, List.nil_append, apure_call1, apure_call2, apure_call3, bft, btf, acodeN, List.getElem?_toArray, List.getElem?_cons_zero, List.getElem?_cons_succ, aopsN, adrawT, cls, astep, aop, afloat, ev, nth_lst, get_lst, aput, setAt_lst, upd_at, init_zero, init_succ, init_nil, Nat.reduceLT, Nat.reduceEqDiff, reduceIte, abuiltin, alen, Option.map_some, Option.map_none, orElse_some, apure_add, apure_eqlV, eqlVal_str, eqlVal_bool, eqlVal_ptr, eqlVal_slice, eqlVal_wide, eqlVal_int, allT, ↓aop_eqlV, apure_neq, List.map_cons, List.map_nil, List.all_cons, List.all_nil, lit2, lit1, lit0, List.isEmpty_nil, bls, Bool.false_eq_true, if_true, if_false, List.length_map, beq_self_eq_true, uns, ↓afloat_eqlV, h8, h9, h2, h4, lr, la, lu, callAb, wrAb, addr48, ca, q1, st]
  exact ⟨_, rfl, by simp only [upd_at, Nat.reduceEqDiff, reduceIte, h4], by simp only [upd_at, Nat.reduceEqDiff, reduceIte]⟩
theorem ahead7 : aheadB E.P E.wr rra_7 6 11 = false := by kernel_rfl
theorem ra7f {N : Mem} {b : Bool} (hne : (pc == pa) = false) (h8 : F 8 = .pointer (some ⟨pr, 0, none⟩)) (h9 : F 9 = .pointer (some ⟨pa, 0, none⟩)) (h2 : F 2 = .pointer (some ⟨pu, 0, none⟩)) (h4 : F 4 = .pointer (some ⟨pc, 0, none⟩)) (lr : aload E.P 27 (.pointer (some ⟨pr, 0, none⟩)) (B.map sealed) = some vR) (la : aload E.P 27 (.pointer (some ⟨pa, 0, none⟩)) (B.map sealed) = some vA) (lu : aload E.P 27 (.pointer (some ⟨pu, 0, none⟩)) (B.map sealed) = some vU)
    (ca : ainv E self 31 [vR] (B.map sealed) = some (vW, B.map sealed)) (cn : ainv E self 32 [vU] (B.map sealed) = some (vS, B.map sealed)) (q1 : ∀ x y, eqFl E.P 27 x y vA vU = some (.bool false)) (q2 : ∀ x y, eqFl E.P 27 x y vA vS = some (.bool b)) (dG : decide (E.G ≤ B.length) = true) (l1 : lit2 vU = true) (l2 : lit2 vS = true) (st : astore E.P 27 (.pointer (some ⟨pc, 0, none⟩)) vW B = some N) :
    ∃ F', acodeN E self nf (.region 7 rra_7 true) (lst F 54) B = some (.normal, lst F' 54, N) ∧ F' 4 = F 4 ∧ F' 5 = .bool b := by
  simp only [↓dra_5, ↓dra_6, ↓dra_7, ↓sra_5, ↓sra_6, ↓sra_7, ↓zra_1, ↓zra_2, ↓zra_3, ↓zra_4, qra_1, qra_101, qra_102, qra_103, qra_104, qra_2, qra_3, qra_4, era_0, era_1, era_2, era_3, era_4, era_5, era_6, era_7, lra_0, lra_1, lra_2, lra_3, lra_4, lra_5, lra_6, lra_7, gra_5_3, gra_7_5, agd_none, gdAt, gdV_bool, gdV_undef, Tryz.f8, List.append_eq, List.cons_append, List.nil_append, apure_call1, apure_call2, apure_call3, bft, btf, acodeN, List.getElem?_toArray, List.getElem?_cons_zero, List.getElem?_cons_succ, aopsN, adrawT, cls, astep, aop, afloat, ev, nth_lst, get_lst, aput, setAt_lst, upd_at, init_zero, init_succ, init_nil, Nat.reduceLT, Nat.reduceEqDiff, reduceIte, abuiltin, alen, Option.map_some, Option.map_none, orElse_some, apure_add, apure_eqlV, eqlVal_str, eqlVal_bool, eqlVal_ptr, eqlVal_slice, eqlVal_wide, eqlVal_int, allT, ↓aop_eqlV, apure_neq, List.map_cons, List.map_nil, List.all_cons, List.all_nil, lit2, lit1, lit0, List.isEmpty_nil, bls, Bool.false_eq_true, if_true, if_false, List.length_map, beq_self_eq_true, uns, ↓afloat_eqlV, h8, h9, h2, h4, lr, la, lu, callAb, wrAb, addr48, ca, callNeg, wrNeg, cn, q1, q2, st, laterOk, dG, ↓l1, ↓l2, sparesB, liveB, loadAt, loadBlk, Nat.reduceAdd, ahead7, List.filter_cons, List.filter_nil, List.append_nil, List.contains_cons, List.contains_nil, hne, Option.toList]
  exact ⟨_, rfl, by simp only [upd_at, Nat.reduceEqDiff, reduceIte, h4], by simp only [upd_at, Nat.reduceEqDiff, reduceIte]⟩
end
end Go.Am.Seat
namespace Go.Am.Seat
open Go.Proofs Go.Am Go.Am.Num
set_option maxHeartbeats 4000000
def froot (x : Fe) : Fe := fmul (fpw (fpw x (2 ^ 250 - 1)) (2 ^ 2)) x
def rcube (v : Fe) : Fe := fmul (fmul v v) v
def rsev (v : Fe) : Fe := fmul (fmul (rcube v) (rcube v)) v
def rroot (u v : Fe) : Fe := fmul (fmul u (rcube v)) (froot (fmul u (rsev v)))
def rfound (u v : Fe) : Fe := fmul (fmul (rroot u v) (rroot u v)) v
def rend (u v : Fe) : Fe := if rfound u v = u then rroot u v else if rfound u v = fmul u fI then rroot u v else fmul (rroot u v) fI
def rok (u v : Fe) : Bool := decide (rfound u v = u) || decide (rfound u v = fneg u)
structure FeOk (sf : Self) : Prop where
  mul : ∀ (x y : Fe) (M : Mem), ainv E sf 22 [ef x, ef y] M = some (ef (fmul x y), M)
  sq : ∀ (x : Fe) (M : Mem), ainv E sf 30 [ef x] M = some (ef (fmul x x), M)
  rt : ∀ (x : Fe) (M : Mem), ainv E sf 18 [ef x] M = some (ef (froot x), M)
  fi : ∀ M : Mem, GM M → ainv E sf 16 [] M = some (ef fI, M)
  ab : ∀ (x : Fe) (M : Mem), GM M → ainv E sf 31 [ef x] M = some (ef (fabs x), M)
  ng : ∀ (x : Fe) (M : Mem), GM M → ainv E sf 32 [ef x] M = some (ef (fneg x), M)
theorem dlt {a b : Nat} (h : a < b) : decide (a < b) = true := decide_eq_true h
theorem ra_body {self : Self} {nf : Nat} (h : FeOk self) (u v : Fe) : ∃ m', abody E self nf 8 [ef u, ef v] mem5r = some (.tuple ⟨[ef (fabs (rend u v)), .bool (rok u v)]⟩, m') := by
  rw [abody_eqF (by kernel_rfl) Tryz.func8 bodyra (by kernel_rfl) (Nat.le_of_ble_eq_true rfl)]
  rw [show Tryz.f8.ntmps = 54 from rfl]
  obtain ⟨D0, hD0⟩ : ∃ D, D = ((mem5r ++ [rowE u]) ++ [rowE v]) ++ [rowZ] := ⟨_, rfl⟩
  obtain ⟨G0, r0, a2, a3, a4⟩ := ra0 (self := self) (nf := nf) (F := init [ef u, ef v]) (B := D0) rfl rfl (boxE u mem5r) (boxE v _) (by rw [hD0]; exact allocE _)
  have a2 : G0 2 = .pointer (some ⟨8, 0, none⟩) := a2
  have a3 : G0 3 = .pointer (some ⟨8 + 1, 0, none⟩) := a3
  have a4 : G0 4 = .pointer (some ⟨8 + 2, 0, none⟩) := a4
  obtain ⟨D1, hD1⟩ : ∃ D, D = D0 ++ [rowE (rcube v)] := ⟨_, rfl⟩
  obtain ⟨D2, hD2⟩ : ∃ D, D = D1 ++ [rowE (rsev v)] := ⟨_, rfl⟩
  obtain ⟨D3, hD3⟩ : ∃ D, D = D2 ++ [rowE (rroot u v)] := ⟨_, rfl⟩
  obtain ⟨D4, hD4⟩ : ∃ D, D = D3 ++ [rowE (rfound u v)] := ⟨_, rfl⟩
  have n0 : D0.length = 8 + 3 := by rw [hD0]; rfl
  have n1 : D1.length = 8 + 4 := by rw [hD1, hD0]; rfl
  have n2 : D2.length = 8 + 5 := by rw [hD2, hD1, hD0]; rfl
  have n3 : D3.length = 8 + 6 := by rw [hD3, hD2, hD1, hD0]; rfl
  have n4 : D4.length = 8 + 7 := by rw [hD4, hD3, hD2, hD1, hD0]; rfl
  have hG : E.G = 8 := rfl
  have gm : GM D4 := by rw [hD4, hD3, hD2, hD1, hD0]; rfl
  obtain ⟨G1, r1, b6, b2, b3, b4⟩ := ra1 (self := self) (nf := nf) (F := G0) (B := D0) (rR := rowE (rcube v)) (vA := ef v) a3 (loadS (by rw [hD0]; rfl)) (dlt (by rw [n0]; decide)) (decide_eq_true (by omega)) (ef_lit _) (ef_lit _) (ef_lit _) (ef_lit _) (h.sq v) (h.mul _ v) (layE _)
  rw [← hD1] at r1
  obtain ⟨G2, r2, c7, c2, c3, c4', c6⟩ := ra2 (self := self) (nf := nf) (F := G1) (B := D1) (rR := rowE (rsev v)) (vA := ef (rcube v)) (vB := ef v) b6 (b3.trans a3) (loadS (by rw [n0, hD1, hD0]; rfl)) (dlt (by rw [n0, n1]; decide)) (loadS (by rw [hD1, hD0]; rfl)) (dlt (by rw [n1]; decide)) (decide_eq_true (by omega)) (ef_lit _) (ef_lit _) (ef_lit _) (ef_lit _) (h.sq _) (h.mul _ v) (layE _)
  rw [← hD2] at r2
  obtain ⟨G3, r3, d8, d2, d3, d4⟩ := ra3 (self := self) (nf := nf) (F := G2) (B := D2) (rR := rowE (rroot u v)) (vU := ef u) (vA := ef (rcube v)) (vB := ef (rsev v)) (c2.trans (b2.trans a2)) (c6.trans b6) c7 (loadS (by rw [hD2, hD1, hD0]; rfl)) (loadS (by rw [n0, hD2, hD1, hD0]; rfl)) (loadS (by rw [n1, hD2, hD1, hD0]; rfl)) (dlt (by rw [n2]; decide)) (dlt (by rw [n0, n2]; decide)) (dlt (by rw [n1, n2]; decide)) (decide_eq_true (by omega)) (ef_lit _) (ef_lit _) (ef_lit _) (ef_lit _) (ef_lit _) (ef_lit _) (ef_lit _) (h.mul u _) (h.mul u _) (h.rt _) (h.mul _ _) (layE _)
  rw [← hD3] at r3
  obtain ⟨G4, r4, e9, e2, e3, e4, e8⟩ := ra4 (self := self) (nf := nf) (F := G3) (B := D3) (rR := rowE (rfound u v)) (vA := ef (rroot u v)) (vB := ef v) d8 (d3.trans (c3.trans (b3.trans a3))) (loadS (by rw [n2, hD3, hD2, hD1, hD0]; rfl)) (dlt (by rw [n2, n3]; decide)) (loadS (by rw [hD3, hD2, hD1, hD0]; rfl)) (dlt (by rw [n3]; decide)) (decide_eq_true (by omega)) (ef_lit _) (ef_lit _) (ef_lit _) (ef_lit _) (h.sq _) (h.mul _ v) (layE _)
  rw [← hD4] at r4
  have k2 : G4 2 = .pointer (some ⟨8, 0, none⟩) := e2.trans (d2.trans (c2.trans (b2.trans a2)))
  have k4 : G4 4 = .pointer (some ⟨8 + 2, 0, none⟩) := e4.trans (d4.trans (c4'.trans (b4.trans a4)))
  have k8 : G4 8 = .pointer (some ⟨8 + 5, 0, none⟩) := (e8.trans d8).trans (by rw [n2])
  have k9 : G4 9 = .pointer (some ⟨8 + 6, 0, none⟩) := e9.trans (by rw [n3])
  have lu : D4[8]? = some (rowE u) := by rw [hD4, hD3, hD2, hD1, hD0]; rfl
  have lr : D4[8 + 5]? = some (rowE (rroot u v)) := by rw [hD4, hD3, hD2, hD1, hD0]; rfl
  have lf : D4[8 + 6]? = some (rowE (rfound u v)) := by rw [hD4, hD3, hD2, hD1, hD0]; rfl
  have lz : D4[8 + 2]? = some rowZ := by rw [hD4, hD3, hD2, hD1, hD0]; rfl
  clear hD4 hD3 hD2 hD1 hD0 a2 a3 a4 b6 b2 b3 b4 c7 c2 c3 c4' c6 d8 d2 d3 d4 e9 e2 e3 e4 e8
  by_cases q1 : rfound u v = u
  · obtain ⟨G5, r5, f39, f2, f4, f8, f9⟩ := ra5f (self := self) (nf := nf) (F := G4) (B := D4) k9 k2 (loadS lf) (loadS lu) (fun x y => by rw [neqFl_ef, decide_eq_true q1]; rfl)
    obtain ⟨G7, r7, g4, g5⟩ := ra7t (self := self) (nf := nf) (F := G5) (B := D4) (f8.trans k8) (f9.trans k9) (f2.trans k2) (f4.trans k4) (loadS lr) (loadS lf) (loadS lu) (h.ab _ _ gm.sealed) (fun x y => by rw [eqFl_ef, decide_eq_true q1]) (storeZ lz)
    have e1 : rend u v = rroot u v := by unfold rend; rw [if_pos q1]
    have e2 : rok u v = true := by unfold rok; rw [decide_eq_true q1]; rfl
    have g4' := g4.trans (f4.trans k4)
    have ld := loadE (m := D4.set (8 + 2) (rowE (fabs (rroot u v)))) (p := 8 + 2) (x := fabs (rroot u v)) (by rw [List.getElem?_set_self (by omega)])
    rw [e1, e2]
    generalize D4.set (8 + 2) (rowE (fabs (rroot u v))) = N at *
    generalize Code.region 0 rra_0 false = C0 at *
    generalize Code.region 1 rra_1 true = C1 at *
    generalize Code.region 2 rra_2 true = C2 at *
    generalize Code.region 3 rra_3 true = C3 at *
    generalize Code.region 4 rra_4 true = C4 at *
    generalize Code.region 5 rra_5 true = C5 at *
    generalize Code.region 6 rra_6 true = C6 at *
    generalize Code.region 7 rra_7 true = C7 at *
    simp only [acodeN, r0, r1, r2, r3, r4, r5, ev, nth_lst, Nat.reduceLT, reduceIte, f39, r7, finish, ares, aresL, ares1, Tryz.f8, g4', g5, ld]
    exact ⟨_, rfl⟩
  · have w1 : ∀ x y, neqFl E.P 27 x y (ef (rfound u v)) (ef u) = some (.bool true) := fun x y => by rw [neqFl_ef, decide_eq_false q1]; rfl
    have w2 : ∀ x y, eqFl E.P 27 x y (ef (rfound u v)) (ef u) = some (.bool false) := fun x y => by rw [eqFl_ef, decide_eq_false q1]
    have e2 : rok u v = decide (rfound u v = fneg u) := by unfold rok; rw [decide_eq_false q1, Bool.false_or]
    by_cases q2 : rfound u v = fmul u fI
    · obtain ⟨G5, r5, f39, f2, f4, f8, f9⟩ := ra5t (self := self) (nf := nf) (F := G4) (B := D4) (b := false) k9 k2 (loadS lf) (loadS lu) w1 (h.fi _ gm.sealed) (h.mul u fI) (fun x y => by rw [neqFl_ef, decide_eq_true q2]; rfl)
      obtain ⟨G7, r7, g4, g5⟩ := ra7f (self := self) (nf := nf) (F := G5) (B := D4) (b := decide (rfound u v = fneg u)) (pc := 8 + 2) (pa := 8 + 6) rfl (f8.trans k8) (f9.trans k9) (f2.trans k2) (f4.trans k4) (loadS lr) (loadS lf) (loadS lu) (h.ab _ _ gm.sealed) (h.ng _ _ gm.sealed) w2 (fun x y => eqFl_ef _ _) (decide_eq_true (by omega)) (ef_lit _) (ef_lit _) (storeZ lz)
      have e1 : rend u v = rroot u v := by unfold rend; rw [if_neg q1, if_pos q2]
      have g4' := g4.trans (f4.trans k4)
      have ld := loadE (m := D4.set (8 + 2) (rowE (fabs (rroot u v)))) (p := 8 + 2) (x := fabs (rroot u v)) (by rw [List.getElem?_set_self (by omega)])
      rw [e1, e2]
      generalize D4.set (8 + 2) (rowE (fabs (rroot u v))) = N at *
      generalize Code.region 0 rra_0 false = C0 at *
      generalize Code.region 1 rra_1 true = C1 at *
      generalize Code.region 2 rra_2 true = C2 at *
      generalize Code.region 3 rra_3 true = C3 at *
      generalize Code.region 4 rra_4 true = C4 at *
      generalize Code.region 5 rra_5 true = C5 at *
      generalize Code.region 6 rra_6 true = C6 at *
      generalize Code.region 7 rra_7 true = C7 at *
      simp only [acodeN, r0, r1, r2, r3, r4, r5, ev, nth_lst, Nat.reduceLT, reduceIte, f39, r7, finish, ares, aresL, ares1, Tryz.f8, g4', g5, ld]
      exact ⟨_, rfl⟩
    · obtain ⟨G5, r5, f39, f2, f4, f8, f9⟩ := ra5t (self := self) (nf := nf) (F := G4) (B := D4) (b := true) k9 k2 (loadS lf) (loadS lu) w1 (h.fi _ gm.sealed) (h.mul u fI) (fun x y => by rw [neqFl_ef, decide_eq_false q2]; rfl)
      obtain ⟨G6, r6, j2, j4, j8, j9⟩ := ra6 (self := self) (nf := nf) (F := G5) (B := D4) (f8.trans k8) (loadS lr) (h.fi _ gm.sealed) (h.mul _ fI) (storeE lr)
      obtain ⟨D5, hD5⟩ : ∃ D, D = D4.set (8 + 5) (rowE (fmul (rroot u v) fI)) := ⟨_, rfl⟩
      rw [← hD5] at r6
      have n5 : D5.length = 8 + 7 := by rw [hD5, List.length_set, n4]
      have gm5 : GM D5 := by
        have := gm
        unfold GM at this ⊢
        rw [hD5, List.take_set, List.set_eq_of_length_le (by rw [List.length_take]; omega)]
        exact this
      have lu' : D5[8]? = some (rowE u) := by rw [hD5, List.getElem?_set_ne (by omega)]; exact lu
      have lf' : D5[8 + 6]? = some (rowE (rfound u v)) := by rw [hD5, List.getElem?_set_ne (by omega)]; exact lf
      have lz' : D5[8 + 2]? = some rowZ := by rw [hD5, List.getElem?_set_ne (by omega)]; exact lz
      have lr' : D5[8 + 5]? = some (rowE (fmul (rroot u v) fI)) := by rw [hD5, List.getElem?_set_self (by omega)]
      obtain ⟨G7, r7, g4, g5⟩ := ra7f (self := self) (nf := nf) (F := G6) (B := D5) (b := decide (rfound u v = fneg u)) (pc := 8 + 2) (pa := 8 + 6) rfl (j8.trans (f8.trans k8)) (j9.trans (f9.trans k9)) (j2.trans (f2.trans k2)) (j4.trans (f4.trans k4)) (loadS lr') (loadS lf') (loadS lu') (h.ab _ _ gm5.sealed) (h.ng _ _ gm5.sealed) w2 (fun x y => eqFl_ef _ _) (decide_eq_true (by omega)) (ef_lit _) (ef_lit _) (storeZ lz')
      have e1 : rend u v = fmul (rroot u v) fI := by unfold rend; rw [if_neg q1, if_neg q2]
      have g4' := g4.trans (j4.trans (f4.trans k4))
      have ld := loadE (m := D5.set (8 + 2) (rowE (fabs (fmul (rroot u v) fI)))) (p := 8 + 2) (x := fabs (fmul (rroot u v) fI)) (by rw [List.getElem?_set_self (by omega)])
      rw [e1, e2]
      generalize D5.set (8 + 2) (rowE (fabs (fmul (rroot u v) fI))) = N at *
      generalize Code.region 0 rra_0 false = C0 at *
      generalize Code.region 1 rra_1 true = C1 at *
      generalize Code.region 2 rra_2 true = C2 at *
      generalize Code.region 3 rra_3 true = C3 at *
      generalize Code.region 4 rra_4 true = C4 at *
      generalize Code.region 5 rra_5 true = C5 at *
      generalize Code.region 6 rra_6 true = C6 at *
      generalize Code.region 7 rra_7 true = C7 at *
      simp only [acodeN, r0, r1, r2, r3, r4, r5, r6, ev, nth_lst, Nat.reduceLT, reduceIte, f39, r7, finish, ares, aresL, ares1, Tryz.f8, g4', g5, ld]
      exact ⟨_, rfl⟩
end Go.Am.Seat
namespace Go.Am.Seat
open Go.Proofs Go.Am Go.Am.Num
set_option maxHeartbeats 4000000
instance : Std.Associative fmul := ⟨fmul_assoc⟩
instance : Std.Commutative fmul := ⟨fmul_comm⟩
theorem fI_sq : fmul fI fI = fneg f1 := fe_ext (by decide +kernel)
theorem neg1_ne1 : fneg f1 ≠ f1 := fun h => absurd (congrArg Subtype.val h) (by decide +kernel)
theorem neg1_neI : fneg f1 ≠ fI := fun h => absurd (congrArg Subtype.val h) (by decide +kernel)
theorem fmul_neg1 (u : Fe) : fmul u (fneg f1) = fneg u := by rw [fmul_comm, fneg_mul, fmul_comm, fmul_one]
theorem froot_pw (t : Fe) (a b e : Nat) (he : a * b + 1 = e) : fmul (fpw (fpw t a) b) t = fpw t e := by
  have h := fpw_mul t (a * b) 1
  rw [fpw_one] at h
  rw [fpw_pow, h, he]
theorem froot_eq (t : Fe) : froot t = fpw t 7237005577332262213973186563042994240829374041602535252466099000494570602493 := froot_pw t _ _ _ (by decide)
theorem found_eq (u v : Fe) : rfound u v = fmul u (fpw (fmul u (rsev v)) 14474011154664524427946373126085988481658748083205070504932198000989141204987) := by
  have h1 : rfound u v = fmul u (fmul (fmul u (rsev v)) (fmul (froot (fmul u (rsev v))) (froot (fmul u (rsev v))))) := by
    unfold rfound rroot
    generalize froot (fmul u (rsev v)) = r
    unfold rsev rcube
    ac_rfl
  rw [h1, froot_eq]
  generalize fmul u (rsev v) = t
  congr 1
  have h2 : ∀ a b c : Nat, 1 + (a + b) = c → fmul t (fmul (fpw t a) (fpw t b)) = fpw t c := fun a b c h => by
    have := fpw_mul t 1 (a + b)
    rw [fpw_one] at this
    rw [fpw_mul, this, h]
  exact h2 _ _ _ (by decide)
end Go.Am.Seat
