/-
  Texts of my own, put together: FR1, G7, G8, FR2, G9, G10, E17, G11.
-/
import Derived.Test.YtmgknkjdbpgjmaaGreatDoorGrFieldRoots22
import Derived.Test.YtmgknkjdbpgjmaaGreatDoorGrFieldRoots24
import Derived.Test.YtmgknkjdbpgjmaaGreatDoorGrFieldRoots18
import Derived.Test.YtmgknkjdbpgjmaaGreatDoorGrFieldRoots21
set_option linter.unusedSimpArgs false
set_option linter.unusedVariables false
set_option maxRecDepth 100000
namespace Go.Am.Seat
open Go.Proofs Go.Am Go.Am.Num
theorem feval_ne {a b : Fe} (h : a.1 ≠ b.1) : a ≠ b := fun e => h (congrArg Subtype.val e)
theorem fI_ne0 : fI ≠ f0 := feval_ne (by decide +kernel)
theorem fI_ne1 : fI ≠ f1 := feval_ne (by decide +kernel)
theorem nI_ne1 : fneg fI ≠ f1 := feval_ne (by decide +kernel)
theorem fone_mul (x : Fe) : fmul f1 x = x := by rw [fmul_comm, fmul_one]
theorem fzero_mul (x : Fe) : fmul f0 x = f0 := by rw [fmul_comm, fmul_zero]
theorem fmul_neg (x y : Fe) : fmul x (fneg y) = fneg (fmul x y) := by rw [fmul_comm, fneg_mul, fmul_comm]
theorem fmul_cancelL {x y z : Fe} (hz : z ≠ f0) (h : fmul z x = fmul z y) : x = y := fmul_cancel hz (by rw [fmul_comm x z, fmul_comm y z]; exact h)
theorem fneg_ne0 {x : Fe} (h : x ≠ f0) : fneg x ≠ f0 := fun e => h (by rw [← fneg_neg x, e]; exact fe_ext (by decide))
theorem fmul_ne0 {x y : Fe} (hx : x ≠ f0) (hy : y ≠ f0) : fmul x y ≠ f0 := fun e => (fmul_eq_zero e).elim hx hy
theorem sq_mul (x y : Fe) : fmul (fmul x y) (fmul x y) = fmul (fmul x x) (fmul y y) := by
  rw [fmul_assoc, ← fmul_assoc y x y, fmul_comm y x, fmul_assoc x y y, ← fmul_assoc]
theorem fpw_f1 (e : Nat) : fpw f1 e = f1 := fe_ext (by show 1 ^ e % P25519 = 1; rw [Nat.one_pow]; decide)
theorem fpw_succ (x : Fe) (e : Nat) : fmul (fpw x e) x = fpw x (e + 1) := by
  have := fpw_mul x e 1
  rwa [fpw_one] at this
def dx (a : Fe) : Fe := fpw a ((P25519 + 3) / 8)
def droot (a : Fe) : Fe := if fmul (dx a) (dx a) = a then fabs (dx a) else fabs (fmul (dx a) fI)
def dok (a : Fe) : Bool := decide (fmul (dx a) (dx a) = a) || decide (fmul (fmul (dx a) fI) (fmul (dx a) fI) = a)
def dinv (a : Fe) : Fe := fpw a (P25519 - 2)
def dratio (u v : Fe) : Fe × Bool := if u = f0 then (f0, true) else if v = f0 then (f0, false) else
  if dok (fmul u (dinv v)) then (droot (fmul u (dinv v)), true) else (droot (fmul fI (fmul u (dinv v))), false)
def quart : Nat := 14474011154664524427946373126085988481658748083205070504932198000989141204987
theorem e_half : (P25519 + 3) / 8 + (P25519 + 3) / 8 = quart + 1 := by decide +kernel
theorem e_four : quart + quart + (quart + quart) = P25519 - 1 := by decide +kernel
theorem e_eight : 8 * quart = (P25519 - 1) * 2 := by decide +kernel
theorem dx_sq (a : Fe) : fmul (dx a) (dx a) = fmul (fpw a quart) a := by
  unfold dx
  rw [fpw_mul, e_half, fpw_succ]
theorem four_roots {q : Fe} (h : fmul (fmul q q) (fmul q q) = f1) : q = f1 ∨ q = fneg f1 ∨ q = fI ∨ q = fneg fI := by
  have h1 : fmul (fmul q q) (fmul q q) = fmul f1 f1 := by rw [h, fmul_one]
  rcases square_eq h1 with h2 | h2
  · have h3 : fmul q q = fmul f1 f1 := by rw [h2, fmul_one]
    rcases square_eq h3 with h4 | h4
    · exact .inl h4
    · exact .inr (.inl h4)
  · have h3 : fmul q q = fmul fI fI := by rw [h2, fI_sq]
    rcases square_eq h3 with h4 | h4
    · exact .inr (.inr (.inl h4))
    · exact .inr (.inr (.inr h4))
theorem quart_roots {a : Fe} (h : a ≠ f0) : fpw a quart = f1 ∨ fpw a quart = fneg f1 ∨ fpw a quart = fI ∨ fpw a quart = fneg fI :=
  four_roots (by rw [fpw_mul, fpw_mul, e_four, ffermat h])
theorem I_quart : fpw fI quart = fneg fI := by
  refine fe_ext ?_
  have h : pw fI.1 quart = pm P25519 fI.1 255 quart := pw_pm _ _ 255 (by decide)
  show pw fI.1 quart = _
  rw [h]
  decide +kernel
theorem neg_sq (x : Fe) : fmul (fneg x) (fneg x) = fmul x x := by rw [fneg_mul, fmul_neg, fneg_neg]
theorem I_sq_mul (x : Fe) : fmul (fmul x fI) (fmul x fI) = fneg (fmul x x) := by rw [sq_mul, fI_sq, fmul_neg1]
theorem neg1_mul (x : Fe) : fmul (fneg f1) x = fneg x := by rw [fneg_mul, fone_mul]
theorem droot_sq {a : Fe} (h : fpw a quart = f1 ∨ fpw a quart = fneg f1) : fmul (droot a) (droot a) = a ∧ dok a = true := by
  have hs := dx_sq a
  unfold droot dok
  by_cases h1 : fmul (dx a) (dx a) = a
  · rw [if_pos h1, square_abs]
    exact ⟨h1, by simp [h1]⟩
  · rw [if_neg h1, square_abs, I_sq_mul]
    have h2 : fneg (fmul (dx a) (dx a)) = a := by
      rcases h with h | h
      · rw [hs, h, fone_mul] at h1
        exact absurd rfl h1
      · rw [hs, h, neg1_mul, fneg_neg]
    exact ⟨h2, by simp [h2]⟩
theorem droot_not {a : Fe} (ha : a ≠ f0) (h : fpw a quart = fI ∨ fpw a quart = fneg fI) : dok a = false := by
  have hs := dx_sq a
  unfold dok
  rw [I_sq_mul]
  have h1 : fmul (dx a) (dx a) ≠ a := by
    rw [hs]
    intro e
    rw [show fmul (fpw a quart) a = a ↔ fmul (fpw a quart) a = fmul f1 a by rw [fone_mul]] at e
    have := fmul_cancel ha e
    rcases h with h | h <;> rw [h] at this
    · exact fI_ne1 this
    · exact nI_ne1 this
  have h2 : fneg (fmul (dx a) (dx a)) ≠ a := by
    rw [hs, ← fneg_mul]
    intro e
    rw [show fmul (fneg (fpw a quart)) a = a ↔ fmul (fneg (fpw a quart)) a = fmul f1 a by rw [fone_mul]] at e
    have := fmul_cancel ha e
    rcases h with h | h <;> rw [h] at this
    · exact nI_ne1 this
    · rw [fneg_neg] at this
      exact fI_ne1 this
  simp [h1, h2]
theorem fabs_fabs (x : Fe) : fabs (fabs x) = fabs x := fabs_of_square (square_abs x)
theorem droot_abs (a : Fe) : droot a = fabs (droot a) := by
  unfold droot
  split <;> rw [fabs_fabs]
theorem quot_back {u v : Fe} (hv : v ≠ f0) : fmul (fmul u (dinv v)) v = u := by
  rw [fmul_assoc, fmul_comm (dinv v) v]
  unfold dinv
  rw [finv hv, fmul_one]
theorem sev_quart {u v : Fe} (hv : v ≠ f0) : fpw (fmul u (rsev v)) quart = fpw (fmul u (dinv v)) quart := by
  have h1 : fmul u (rsev v) = fmul (fmul u (dinv v)) (fpw v 8) := by
    have h8 : fpw v 8 = fmul v (rsev v) := by
      unfold rsev rcube
      have h2 : fmul v v = fpw v 2 := by
        have := fpw_mul v 1 1
        rwa [fpw_one] at this
      have h3 : fmul (fmul v v) v = fpw v 3 := by rw [h2, fpw_succ]
      rw [h3, fpw_mul, fpw_succ, fmul_comm, fpw_succ]
    rw [h8, ← fmul_assoc, quot_back hv]
  rw [h1, fpw_prod, fpw_pow, e_eight, ← fpw_pow, ffermat hv, fpw_f1, fmul_one]
theorem ratio_eq (u v : Fe) : dratio u v = (fabs (rend u v), rok u v) := by
  unfold dratio
  by_cases hu : u = f0
  · subst hu
    rw [if_pos rfl]
    have h1 : rroot f0 v = f0 := by unfold rroot; rw [fzero_mul, fzero_mul]
    have h2 : rfound f0 v = f0 := by unfold rfound; rw [h1, fzero_mul, fzero_mul]
    have h3 : fabs f0 = f0 := fe_ext (by decide +kernel)
    unfold rend rok
    rw [h2, if_pos rfl, h1, h3]
    simp
  · rw [if_neg hu]
    by_cases hv : v = f0
    · subst hv
      rw [if_pos rfl]
      have h0 : rcube f0 = f0 := by unfold rcube; rw [fmul_zero]
      have h1 : rroot u f0 = f0 := by unfold rroot; rw [h0, fmul_zero, fzero_mul]
      have h2 : rfound u f0 = f0 := by unfold rfound; rw [fmul_zero]
      have h3 : fabs f0 = f0 := fe_ext (by decide +kernel)
      unfold rend rok
      rw [h2, if_neg (fun e => hu e.symm), if_neg (fun e => fmul_ne0 hu fI_ne0 e.symm), h1, fzero_mul, h3]
      have h4 : f0 ≠ u := fun e => hu e.symm
      have h5 : f0 ≠ fneg u := fun e => fneg_ne0 hu e.symm
      simp [h4, h5]
    · rw [if_neg hv]
      have hf : rfound u v = fmul u (fpw (fmul u (dinv v)) quart) := by rw [found_eq]; exact congrArg _ (sev_quart hv)
      have hw : fmul u (dinv v) ≠ f0 := fun e => hu (by rw [← quot_back (u := u) hv, e, fzero_mul])
      have hb := quot_back (u := u) hv
      have hsq : fmul (fmul (rroot u v) (rroot u v)) v = rfound u v := rfl
      unfold rend rok
      generalize fmul u (dinv v) = w at *
      generalize rfound u v = f at *
      have hq := quart_roots hw
      have hIw : fpw (fmul fI w) quart = fmul (fneg fI) (fpw w quart) := by rw [fpw_prod, I_quart]
      have uneg : fneg u ≠ u := fun e => by
        rw [show fneg u = u ↔ fmul (fneg f1) u = fmul f1 u by rw [neg1_mul, fone_mul]] at e
        exact neg1_ne1 (fmul_cancel hu e)
      have uI : fmul u fI ≠ u := fun e => by
        rw [show fmul u fI = u ↔ fmul u fI = fmul u f1 by rw [fmul_one]] at e
        exact fI_ne1 (fmul_cancelL hu e)
      have uIn : fmul u fI ≠ fneg u := fun e => by
        rw [← fmul_neg1] at e
        exact neg1_neI (fmul_cancelL hu e).symm
      have unI : fneg u ≠ fmul u fI := fun e => uIn e.symm
      have nuI : fneg (fmul u fI) ≠ u := fun e => uIn (by have := congrArg fneg e; rwa [fneg_neg] at this)
      have nuIn : fneg (fmul u fI) ≠ fneg u := fun e => uI (by have := congrArg fneg e; rwa [fneg_neg, fneg_neg] at this)
      have nuII : fneg (fmul u fI) ≠ fmul u fI := fun e => by
        rw [show fneg (fmul u fI) = fmul u fI ↔ fmul (fneg f1) (fmul u fI) = fmul f1 (fmul u fI) by rw [neg1_mul, fone_mul]] at e
        exact neg1_ne1 (fmul_cancel (fmul_ne0 hu fI_ne0) e)
      rcases hq with hq | hq | hq | hq <;> rw [hq] at hf hIw
      · rw [fmul_one] at hf
        subst hf
        obtain ⟨h1, h2⟩ := droot_sq (.inl hq)
        rw [h2, if_pos rfl, if_pos rfl, droot_abs]
        refine Prod.ext (fabs_of_square ?_) (by simp)
        rw [h1]
        exact (fmul_cancel hv (hsq.trans hb.symm)).symm
      · rw [fmul_neg1] at hf
        subst hf
        obtain ⟨h1, h2⟩ := droot_sq (.inr hq)
        rw [h2, if_pos rfl, if_neg uneg, if_neg unI, droot_abs]
        refine Prod.ext (fabs_of_square ?_) (by simp)
        rw [h1, I_sq_mul]
        refine (fmul_cancel hv ?_).symm
        rw [fneg_mul, hsq, fneg_neg, hb]
      · subst hf
        have h2 := droot_not hw (.inl hq)
        obtain ⟨h3, h4⟩ := droot_sq (a := fmul fI w) (.inl (by rw [hIw, fneg_mul, fI_sq, fneg_neg]))
        rw [h2, if_neg (by simp), if_neg uI, if_pos rfl, droot_abs]
        refine Prod.ext (fabs_of_square ?_) (by simp [uI, uIn])
        rw [h3]
        refine (fmul_cancel hv ?_).symm
        rw [hsq, fmul_assoc, hb, fmul_comm]
      · rw [fmul_neg] at hf
        subst hf
        have h2 := droot_not hw (.inr hq)
        obtain ⟨h3, h4⟩ := droot_sq (a := fmul fI w) (.inr (by rw [hIw, neg_sq, fI_sq]))
        rw [h2, if_neg (by simp), if_neg nuI, if_neg nuII, droot_abs]
        refine Prod.ext (fabs_of_square ?_) (by simp [nuI, nuIn])
        rw [h3, I_sq_mul]
        refine (fmul_cancel hv ?_).symm
        rw [fneg_mul, hsq, fneg_neg, fmul_assoc, hb, fmul_comm]
theorem fpw_pm (x : Fe) (e f : Nat) (h : e < 2 ^ f) : (fpw x e).1 = pm P25519 x.1 f e := pw_pm x.1 e f h
theorem fabs_at (x : Fe) : (fabs x).1 = absF x.1 := rfl
theorem two_quart : fabs (fpw (fe 2) quart) = fI := by
  refine fe_ext ?_
  rw [fabs_at, fpw_pm (fe 2) quart 255 (by decide)]
  decide +kernel
end Go.Am.Seat
namespace Go.Am.Seat
open Go.Proofs Go.Am Go.Am.Num
noncomputable def rrby5_0 : Array Oper := match Tryz.f40.body with
  | some (.seq (.region _ o _) _) => o
  | _ => #[]
noncomputable def lrby5_0 : List Oper := match Tryz.f40.body with
  | some (.seq (.region _ o _) _) => o.toList
  | _ => []
theorem erby5_0 : rrby5_0.toList = lrby5_0 := rfl
noncomputable def rrby5_1 : Array Oper := match Tryz.f40.body with
  | some (.seq _ (.seq (.region _ o _) _)) => o
  | _ => #[]
noncomputable def lrby5_1 : List Oper := match Tryz.f40.body with
  | some (.seq _ (.seq (.region _ o _) _)) => o.toList
  | _ => []
theorem erby5_1 : rrby5_1.toList = lrby5_1 := rfl
noncomputable def rrby5_2 : Array Oper := match Tryz.f40.body with
  | some (.seq _ (.seq _ (.seq (.seq (.region _ o _) _) _))) => o
  | _ => #[]
noncomputable def lrby5_2 : List Oper := match Tryz.f40.body with
  | some (.seq _ (.seq _ (.seq (.seq (.region _ o _) _) _))) => o.toList
  | _ => []
theorem erby5_2 : rrby5_2.toList = lrby5_2 := rfl
noncomputable def lprby5_0 : Code := match Tryz.f40.body with
  | some (.seq _ (.seq _ (.seq (.seq _ (.block _ (.loop c))) _))) => c
  | _ => .skip
noncomputable def rrby5_3 : Array Oper := match Tryz.f40.body with
  | some (.seq _ (.seq _ (.seq (.seq _ (.block _ (.loop (.seq (.seq (.region _ o _) _) _)))) _))) => o
  | _ => #[]
noncomputable def lrby5_3 : List Oper := match Tryz.f40.body with
  | some (.seq _ (.seq _ (.seq (.seq _ (.block _ (.loop (.seq (.seq (.region _ o _) _) _)))) _))) => o.toList
  | _ => []
theorem erby5_3 : rrby5_3.toList = lrby5_3 := rfl
theorem grby5_3_4 {T : List Value} {dd : Option Tmp} {op : Op} {ty : TypeId} {pos : String} {af : Array Edge} {want : Bool} : agd rrby5_3 T { dst := dd, op := op, type := ty, pos := pos, after := af, guard := some (4, want) } = gdAt T 9 want := agd_at (by kernel_rfl)
noncomputable def rrby5_5 : Array Oper := match Tryz.f40.body with
  | some (.seq _ (.seq _ (.seq (.seq _ (.block _ (.loop (.seq _ (.seq (.block _ (.region _ o _)) _))))) _))) => o
  | _ => #[]
noncomputable def lrby5_5 : List Oper := match Tryz.f40.body with
  | some (.seq _ (.seq _ (.seq (.seq _ (.block _ (.loop (.seq _ (.seq (.block _ (.region _ o _)) _))))) _))) => o.toList
  | _ => []
theorem erby5_5 : rrby5_5.toList = lrby5_5 := rfl
noncomputable def rrby5_4 : Array Oper := match Tryz.f40.body with
  | some (.seq _ (.seq _ (.seq (.seq _ (.block _ (.loop (.seq _ (.seq _ (.region _ o _)))))) _))) => o
  | _ => #[]
noncomputable def lrby5_4 : List Oper := match Tryz.f40.body with
  | some (.seq _ (.seq _ (.seq (.seq _ (.block _ (.loop (.seq _ (.seq _ (.region _ o _)))))) _))) => o.toList
  | _ => []
theorem erby5_4 : rrby5_4.toList = lrby5_4 := rfl
theorem lprby5_0_eq : lprby5_0 = (.seq (.seq (.region 3 rrby5_3 false) (.cond (.tmp 12) .skip (.exit 0))) (.seq (.block 1 (.region 5 rrby5_5 false)) (.region 4 rrby5_4 false))) := rfl
noncomputable def rrby5_6 : Array Oper := match Tryz.f40.body with
  | some (.seq _ (.seq _ (.seq _ (.seq (.region _ o _) _)))) => o
  | _ => #[]
noncomputable def lrby5_6 : List Oper := match Tryz.f40.body with
  | some (.seq _ (.seq _ (.seq _ (.seq (.region _ o _) _)))) => o.toList
  | _ => []
theorem erby5_6 : rrby5_6.toList = lrby5_6 := rfl
theorem bodyrby5 : Tryz.f40.body = some (.seq (.region 0 rrby5_0 false) (.seq (.region 1 rrby5_1 false) (.seq (.seq (.region 2 rrby5_2 false) (.block 0 (.loop lprby5_0))) (.seq (.region 6 rrby5_6 false) .ret)))) := rfl
-- ntmps 23
theorem dig_at : ∀ (i x : Nat), i < (dig x).length → (dig x)[i]? = some (x / 256 ^ i % 256)
  | 0, x, h => by
    have hx : x ≠ 0 := by intro h0; subst h0; rw [dig_zero] at h; simp at h
    rw [dig_pos hx]
    simp
  | i + 1, x, h => by
    have hx : x ≠ 0 := by intro h0; subst h0; rw [dig_zero] at h; simp at h
    rw [dig_pos hx] at h ⊢
    rw [List.getElem?_cons_succ, dig_at i (x / 256) (by simpa using h), Nat.div_div_eq_div_mul, Nat.pow_succ, Nat.mul_comm 256]
theorem dig_past {i x : Nat} (h : (dig x).length ≤ i) : x / 256 ^ i % 256 = 0 := by
  have h1 := lt_dig_len x
  have h2 : 256 ^ (dig x).length ≤ 256 ^ i := Nat.pow_le_pow_right (by omega) h
  rw [Nat.div_eq_of_lt (by omega)]
theorem low_part (Y : Nat) : ∀ r, r < 8 → Y % 18446744073709551616 / 2 ^ (8 * r) % 256 = Y / 2 ^ (8 * r) % 256
  | 0, _ => by simp only [Nat.mul_zero, Nat.pow_zero, Nat.div_one]; omega
  | 1, _ => by simp only [Nat.reduceMul, Nat.reducePow]; omega
  | 2, _ => by simp only [Nat.reduceMul, Nat.reducePow]; omega
  | 3, _ => by simp only [Nat.reduceMul, Nat.reducePow]; omega
  | 4, _ => by simp only [Nat.reduceMul, Nat.reducePow]; omega
  | 5, _ => by simp only [Nat.reduceMul, Nat.reducePow]; omega
  | 6, _ => by simp only [Nat.reduceMul, Nat.reducePow]; omega
  | 7, _ => by simp only [Nat.reduceMul, Nat.reducePow]; omega
  | r + 8, h => by omega
theorem byteX_dig (X i : Nat) : byteX X i = X / 256 ^ i % 256 := by
  unfold byteX wd
  rw [low_part _ _ (Nat.mod_lt _ (by omega)), Nat.div_div_eq_div_mul]
  have e1 : (18446744073709551616 : Nat) = 256 ^ 8 := by decide
  have e2 : (2 : Nat) ^ (8 * (i % 8)) = 256 ^ (i % 8) := by rw [Nat.pow_mul]
  rw [e1, e2, ← Nat.pow_mul, ← Nat.pow_add, Nat.div_add_mod]
theorem conv3_5n {x : Nat} (h : x < 256) : aconv E.P 3 5 (.int .i64 ((x : Nat) : Int)) = some (.int .u8 ((x : Nat) : Int)) := by
  rw [conv3_5]
  congr 2
  omega
section
variable {self : Self} {nf : Nat} {m M : Mem} {F : Nat → Value} {a : Value} {x i q : Nat} {v : Nat → Nat}
theorem rby_it (h0 : F 0 = a) (h3 : F 3 = .pointer (some ⟨q, 0, none⟩)) (h4 : F 4 = .int .i64 (i : Nat)) (hN : NumA M a (dig x)) (hi : i < (dig x).length) (hi9 : i < 32) (hq : M[q]? = some (.row false 23 (rowK .u8 32 v))) :
    ∃ F', acodeN E self nf lprby5_0 (lst F 23) M = some (.normal, lst F' 23, M.set q (.row false 23 (rowK .u8 32 fun j => if j = i then x / 256 ^ i % 256 else v j))) ∧ F' 0 = F 0 ∧ F' 2 = F 2 ∧ F' 3 = F 3 ∧ F' 4 = .int .i64 ((i + 1 : Nat) : Int) := by
  have q1 : decide (((i : Nat) : Int) < (((dig x).length : Nat) : Int)) = true := decide_eq_true (by omega)
  have q2 : decide (((i : Nat) : Int) < 32) = true := decide_eq_true (by omega)
  have la := hN.1
  obtain ⟨b, o, i1, c1⟩ := hN.2 i _ (dig_at i x hi)
  have hd : x / 256 ^ i % 256 < 256 := Nat.mod_lt _ (by omega)
  generalize x / 256 ^ i % 256 = d at *
  have i2 := a46.ix (p := q) (j := i) hi9
  have st := a46.storeE (x := d) hq hi9
  have e4 := w1 (i := i) (by omega)
  simp only [lprby5_0_eq, erby5_0, erby5_1, erby5_2, erby5_3, erby5_4, erby5_5, erby5_6, lrby5_0, lrby5_1, lrby5_2, lrby5_3, lrby5_4, lrby5_5, lrby5_6, grby5_3_4, agd_none, gdAt, gdV_bool, gdV_undef, Tryz.f40, List.append_eq, List.cons_append, List.nil_append, apure_call1, apure_call2, apure_call3, bft, btf, acodeN, List.getElem?_toArray, List.getElem?_cons_zero, List.getElem?_cons_succ, aopsN, adrawT, cls, astep, aop, afloat, ev, nth_lst, get_lst, aput, setAt_lst, upd_at, init_zero, init_succ, init_nil, Nat.reduceLT, Nat.reduceEqDiff, reduceIte, len_N, abuiltin_app, Option.map_some, Option.map_none, orElse_some, apure_add, apure_eqlV, eqlVal_str, eqlVal_bool, eqlVal_ptr, eqlVal_slice, eqlVal_wide, eqlVal_int, allT, ↓aop_eqlV, apure_neq, List.map_cons, List.map_nil, List.all_cons, List.all_nil, lit2, lit1, lit0, List.isEmpty_nil, bls, Bool.false_eq_true, if_true, if_false, List.length_map, beq_self_eq_true, uns, h0, h3, h4, la, lss64, q1, q2, i1, load3, c1, conv3_5n hd, i2, st, add64', e4]
  exact ⟨_, rfl, by simp only [upd_at, Nat.reduceEqDiff, reduceIte, h0], by simp only [upd_at, Nat.reduceEqDiff, reduceIte], by simp only [upd_at, Nat.reduceEqDiff, reduceIte, h3], by simp only [upd_at, Nat.reduceEqDiff, reduceIte]⟩
theorem rby_ex (h0 : F 0 = a) (h4 : F 4 = .int .i64 (i : Nat)) (hN : NumA M a (dig x)) (hi : (dig x).length ≤ i) :
    ∃ F', acodeN E self nf lprby5_0 (lst F 23) M = some (.exit 0, lst F' 23, M) ∧ F' 2 = F 2 ∧ F' 3 = F 3 := by
  have q1 : decide (((i : Nat) : Int) < (((dig x).length : Nat) : Int)) = false := decide_eq_false (by omega)
  have la := hN.1
  simp only [lprby5_0_eq, erby5_0, erby5_1, erby5_2, erby5_3, erby5_4, erby5_5, erby5_6, lrby5_0, lrby5_1, lrby5_2, lrby5_3, lrby5_4, lrby5_5, lrby5_6, grby5_3_4, agd_none, gdAt, gdV_bool, gdV_undef, Tryz.f40, List.append_eq, List.cons_append, List.nil_append, apure_call1, apure_call2, apure_call3, bft, btf, acodeN, List.getElem?_toArray, List.getElem?_cons_zero, List.getElem?_cons_succ, aopsN, adrawT, cls, astep, aop, afloat, ev, nth_lst, get_lst, aput, setAt_lst, upd_at, init_zero, init_succ, init_nil, Nat.reduceLT, Nat.reduceEqDiff, reduceIte, len_N, abuiltin_app, Option.map_some, Option.map_none, orElse_some, apure_add, apure_eqlV, eqlVal_str, eqlVal_bool, eqlVal_ptr, eqlVal_slice, eqlVal_wide, eqlVal_int, allT, ↓aop_eqlV, apure_neq, List.map_cons, List.map_nil, List.all_cons, List.all_nil, lit2, lit1, lit0, List.isEmpty_nil, bls, Bool.false_eq_true, if_true, if_false, List.length_map, beq_self_eq_true, uns, h0, h4, la, lss64, q1]
  exact ⟨_, rfl, by simp only [upd_at, Nat.reduceEqDiff, reduceIte], by simp only [upd_at, Nat.reduceEqDiff, reduceIte]⟩
theorem rby5_body (hN : NumA m a (dig x)) (hx : x < 256 ^ 32) (hnf : 1000 < nf) : ∃ m', abody E self nf 40 [a] m = some (arrK .u8 32 (byteX x), m') := by
  rw [abody_eqF (by kernel_rfl) Tryz.func40 bodyrby5 (by kernel_rfl) (Nat.le_of_ble_eq_true rfl)]
  rw [show Tryz.f40.ntmps = 23 from rfl]
  have hlen := dig_len_le hx
  have b1 := alloc46 m
  obtain ⟨A, hA⟩ : ∃ A, A = m ++ [Blk.row false 23 (rowK .u8 32 fun _ => 0)] := ⟨_, rfl⟩
  rw [← hA] at b1
  have b2 := alloc46 A
  have lA : A.length = m.length + 1 := by rw [hA]; simp
  rw [lA] at b2
  obtain ⟨N, hN9⟩ : ∃ N, N = A ++ [Blk.row false 23 (rowK .u8 32 fun _ => 0)] := ⟨_, rfl⟩
  rw [← hN9] at b2
  have gq : N[m.length + 1]? = some (.row false 23 (rowK .u8 32 fun _ => 0)) := by rw [hN9, ← lA]; simp
  have gr : N[m.length]? = some (.row false 23 (rowK .u8 32 fun _ => 0)) := by rw [hN9, List.getElem?_append_left (by omega), hA]; simp
  have gk : ∀ k, k < m.length → N[k]? = m[k]? := fun k hk => by rw [hN9, List.getElem?_append_left (by omega), hA, List.getElem?_append_left hk]
  have hl := aloop_inv (body := acodeN E self nf lprby5_0) (N := 32)
    (I := fun i T M => ∃ G, T = lst G 23 ∧ G 0 = a ∧ G 2 = .pointer (some ⟨m.length, 0, none⟩) ∧ G 3 = .pointer (some ⟨m.length + 1, 0, none⟩) ∧ G 4 = .int .i64 (i : Nat) ∧ i ≤ (dig x).length ∧ M[m.length + 1]? = some (.row false 23 (rowK .u8 32 fun j => if j < i then x / 256 ^ j % 256 else 0)) ∧ (∀ k, k ≠ m.length + 1 → M[k]? = N[k]?))
    (Q := fun e T M => e = .exit 0 ∧ ∃ G, T = lst G 23 ∧ G 2 = .pointer (some ⟨m.length, 0, none⟩) ∧ G 3 = .pointer (some ⟨m.length + 1, 0, none⟩) ∧ M[m.length + 1]? = some (.row false 23 (rowK .u8 32 (byteX x))) ∧ (∀ k, k ≠ m.length + 1 → M[k]? = N[k]?)) (fun i T M hi hI => by
      obtain ⟨G, rfl, g0, g2, g3, g4, gi, gr, gk9⟩ := hI
      have hNM : NumA M a (dig x) := hN.keep fun k hk => (gk9 k (by omega)).trans (gk k hk)
      by_cases hlt : i < (dig x).length
      · left
        obtain ⟨F', hr, f0, f2, f3, f4⟩ := rby_it (self := self) (nf := nf) g0 g3 g4 hNM hlt (by omega) gr
        refine ⟨_, _, hr, by omega, F', rfl, f0.trans g0, f2.trans g2, f3.trans g3, f4, hlt, ?_, fun k hk => by rw [List.getElem?_set_ne (fun e => hk e.symm), gk9 k hk]⟩
        rw [List.getElem?_set_self (lt_of_at gr)]
        refine congrArg (fun l => some (Blk.row false 23 l)) (rowK_ext fun j _ => ?_)
        by_cases hj : j = i
        · subst hj
          rw [if_pos rfl, if_pos (by omega)]
        · rw [if_neg hj]
          by_cases hj2 : j < i
          · rw [if_pos hj2, if_pos (by omega)]
          · rw [if_neg hj2, if_neg (by omega)]
      · right
        obtain ⟨F', hr, f2, f3⟩ := rby_ex (self := self) (nf := nf) (i := i) g0 g4 hNM (by omega)
        refine ⟨_, _, _, hr, by simp, rfl, F', rfl, f2.trans g2, f3.trans g3, ?_, gk9⟩
        rw [gr]
        refine congrArg (fun l => some (Blk.row false 23 l)) (rowK_ext fun j _ => ?_)
        rw [byteX_dig]
        by_cases hj : j < i
        · rw [if_pos hj]
        · rw [if_neg hj, dig_past (by omega)])
  obtain ⟨e, T', M1, hr, rfl, G, rfl, g2, g3, kq, ko⟩ := hl 32 0 nf (lst (upd (upd (upd (init [a]) 2 (.pointer (some ⟨m.length, 0, none⟩))) 3 (.pointer (some ⟨m.length + 1, 0, none⟩))) 4 (.int .i64 0)) 23) N (by omega) (by omega) ⟨_, rfl, rfl, rfl, rfl, rfl, by omega, by rw [gq]; simp, fun _ _ => rfl⟩
  have kr : M1[m.length]? = some (.row false 23 (rowK .u8 32 fun _ => 0)) := by rw [ko _ (by omega)]; exact gr
  have ld1 := a46.load kq
  have st2 := a46.store (w := byteX x) (by omega) kr (rowK_length _ _ _)
  have ld2 : aload E.P 23 (.pointer (some ⟨m.length, 0, none⟩)) (M1.set m.length (.row false 23 (rowK .u8 32 (byteX x)))) = some (arrK .u8 32 (byteX x)) := a46.load (by rw [List.getElem?_set_self (lt_of_at kr)])
  generalize byteX x = R at *
  clear kq kr ko gr gk gq hN9 hA hl
  simp only [erby5_0, erby5_1, erby5_2, erby5_3, erby5_4, erby5_5, erby5_6, lrby5_0, lrby5_1, lrby5_2, lrby5_3, lrby5_4, lrby5_5, lrby5_6, grby5_3_4, agd_none, gdAt, gdV_bool, gdV_undef, Tryz.f40, List.append_eq, List.cons_append, List.nil_append, apure_call1, apure_call2, apure_call3, bft, btf, acodeN, List.getElem?_toArray, List.getElem?_cons_zero, List.getElem?_cons_succ, aopsN, adrawT, cls, astep, aop, afloat, ev, nth_lst, get_lst, aput, setAt_lst, upd_at, init_zero, init_succ, init_nil, Nat.reduceLT, Nat.reduceEqDiff, reduceIte, len_N, abuiltin_app, Option.map_some, Option.map_none, orElse_some, apure_add, apure_eqlV, eqlVal_str, eqlVal_bool, eqlVal_ptr, eqlVal_slice, eqlVal_wide, eqlVal_int, allT, ↓aop_eqlV, apure_neq, List.map_cons, List.map_nil, List.all_cons, List.all_nil, lit2, lit1, lit0, List.isEmpty_nil, bls, Bool.false_eq_true, if_true, if_false, List.length_map, beq_self_eq_true, uns, b1, b2, hr, g2, g3, ld1, st2, ld2, finish, ares, aresL, ares1]
  exact ⟨_, rfl⟩
end
def CByt5 (self : Self) : Prop := ∀ (m : Mem) (a : Value) (x : Nat), NumA m a (dig x) → x < 256 ^ 32 → ainv E self 40 [a] m = some (arrK .u8 32 (byteX x), m)
theorem cbyt5 {R : Nat → Self} {K : List Fact} (hR : Runs R K) {n : Nat} (hK : hasF K 40 = false) (hn : 1000 ≤ n) : CByt5 (R (n + 1)) := by
  intro m a x ha hx
  by_cases hl : ([a].all lit2) = true
  · have hl9 := hl
    simp only [List.all_cons, List.all_nil, Bool.and_true] at hl9
    obtain ⟨rfl, h1⟩ := ha.lit hl9
    obtain ⟨m', hb⟩ := rby5_body (self := R n) (nf := n + 1) (m := (m.take E.G).map onlyTab) (a := .slice none 0 0) (x := x) (by rw [h1]; exact NumA.nil _) hx (by omega)
    exact ainv_lit hl (by kernel_rfl) (hR.b hK hb) (arrK_lit _ _ _)
  · obtain ⟨m', hb⟩ := rby5_body (self := R n) (nf := n + 1) ha.sealed hx (by omega)
    exact ainv_look (by simpa using hl) (by kernel_rfl) (hR.b hK hb) (arrK_lit _ _ _)
end Go.Am.Seat
namespace Go.Am.Seat
open Go.Proofs Go.Am Go.Am.Num
noncomputable def rrof5_0 : Array Oper := match Tryz.f6.body with
  | some (.seq (.region _ o _) _) => o
  | _ => #[]
noncomputable def lrof5_0 : List Oper := match Tryz.f6.body with
  | some (.seq (.region _ o _) _) => o.toList
  | _ => []
theorem erof5_0 : rrof5_0.toList = lrof5_0 := rfl
noncomputable def rrof5_1 : Array Oper := match Tryz.f6.body with
  | some (.seq _ (.seq (.region _ o _) _)) => o
  | _ => #[]
noncomputable def lrof5_1 : List Oper := match Tryz.f6.body with
  | some (.seq _ (.seq (.region _ o _) _)) => o.toList
  | _ => []
theorem erof5_1 : rrof5_1.toList = lrof5_1 := rfl
noncomputable def rrof5_2 : Array Oper := match Tryz.f6.body with
  | some (.seq _ (.seq _ (.seq (.seq (.region _ o _) _) _))) => o
  | _ => #[]
noncomputable def lrof5_2 : List Oper := match Tryz.f6.body with
  | some (.seq _ (.seq _ (.seq (.seq (.region _ o _) _) _))) => o.toList
  | _ => []
theorem erof5_2 : rrof5_2.toList = lrof5_2 := rfl
noncomputable def lprof5_0 : Code := match Tryz.f6.body with
  | some (.seq _ (.seq _ (.seq (.seq _ (.block _ (.loop c))) _))) => c
  | _ => .skip
noncomputable def rrof5_3 : Array Oper := match Tryz.f6.body with
  | some (.seq _ (.seq _ (.seq (.seq _ (.block _ (.loop (.seq (.seq (.region _ o _) _) _)))) _))) => o
  | _ => #[]
noncomputable def lrof5_3 : List Oper := match Tryz.f6.body with
  | some (.seq _ (.seq _ (.seq (.seq _ (.block _ (.loop (.seq (.seq (.region _ o _) _) _)))) _))) => o.toList
  | _ => []
theorem erof5_3 : rrof5_3.toList = lrof5_3 := rfl
noncomputable def rrof5_5 : Array Oper := match Tryz.f6.body with
  | some (.seq _ (.seq _ (.seq (.seq _ (.block _ (.loop (.seq _ (.seq (.block _ (.region _ o _)) _))))) _))) => o
  | _ => #[]
noncomputable def lrof5_5 : List Oper := match Tryz.f6.body with
  | some (.seq _ (.seq _ (.seq (.seq _ (.block _ (.loop (.seq _ (.seq (.block _ (.region _ o _)) _))))) _))) => o.toList
  | _ => []
theorem erof5_5 : rrof5_5.toList = lrof5_5 := rfl
noncomputable def rrof5_4 : Array Oper := match Tryz.f6.body with
  | some (.seq _ (.seq _ (.seq (.seq _ (.block _ (.loop (.seq _ (.seq _ (.region _ o _)))))) _))) => o
  | _ => #[]
noncomputable def lrof5_4 : List Oper := match Tryz.f6.body with
  | some (.seq _ (.seq _ (.seq (.seq _ (.block _ (.loop (.seq _ (.seq _ (.region _ o _)))))) _))) => o.toList
  | _ => []
theorem erof5_4 : rrof5_4.toList = lrof5_4 := rfl
theorem lprof5_0_eq : lprof5_0 = (.seq (.seq (.region 3 rrof5_3 false) (.cond (.tmp 7) .skip (.exit 0))) (.seq (.block 1 (.region 5 rrof5_5 false)) (.region 4 rrof5_4 false))) := rfl
noncomputable def rrof5_6 : Array Oper := match Tryz.f6.body with
  | some (.seq _ (.seq _ (.seq _ (.seq (.region _ o _) _)))) => o
  | _ => #[]
noncomputable def lrof5_6 : List Oper := match Tryz.f6.body with
  | some (.seq _ (.seq _ (.seq _ (.seq (.region _ o _) _)))) => o.toList
  | _ => []
theorem erof5_6 : rrof5_6.toList = lrof5_6 := rfl
theorem bodyrof5 : Tryz.f6.body = some (.seq (.region 0 rrof5_0 false) (.seq (.region 1 rrof5_1 false) (.seq (.seq (.region 2 rrof5_2 false) (.block 0 (.loop lprof5_0))) (.seq (.region 6 rrof5_6 false) .ret)))) := rfl
-- ntmps 20
noncomputable def ris5_0 : Array Oper := match Tryz.f13.body with
  | some (.seq (.region _ o _) _) => o
  | _ => #[]
noncomputable def lis5_0 : List Oper := match Tryz.f13.body with
  | some (.seq (.region _ o _) _) => o.toList
  | _ => []
theorem eis5_0 : ris5_0.toList = lis5_0 := rfl
noncomputable def ris5_1 : Array Oper := match Tryz.f13.body with
  | some (.seq _ (.seq (.region _ o _) _)) => o
  | _ => #[]
noncomputable def lis5_1 : List Oper := match Tryz.f13.body with
  | some (.seq _ (.seq (.region _ o _) _)) => o.toList
  | _ => []
theorem eis5_1 : ris5_1.toList = lis5_1 := rfl
theorem bodyis5 : Tryz.f13.body = some (.seq (.region 0 ris5_0 false) (.seq (.region 1 ris5_1 false) .ret)) := rfl
-- ntmps 10
theorem ix35 {b L c j : Nat} (h : j < L) : aindexAddr E.P 51 (.slice (some ⟨b, 0, none⟩) L c) (.int .i64 (j : Nat)) = some (.pointer (some ⟨b, j, none⟩)) := by
  obtain ⟨i, h1, h2⟩ := info_of (t := 5) (n := 1) (by kernel_rfl)
  unfold aindexAddr
  simp only [show E.P.underlying 51 = some (.slice 5) from Tryz.underlying51, h1]
  rw [if_pos (by omega)]
  simp [h2]
theorem make35n (c : Nat) (hc : c < 1000000) (m : Mem) : amakeSlice E.P 51 (.int .i64 (c : Nat)) (.int .i64 (c : Nat)) m = some (.slice (some ⟨m.length, 0, none⟩) c c, m ++ [.row false 5 (List.replicate c (.int .u8 0))]) := by
  have hz : zero1 E.P 5 = some (.int .u8 0) := by kernel_rfl
  have hi : (E.P.info? 5).map (·.bytes) = some 1 := by kernel_rfl
  obtain ⟨i, h1, h2⟩ := Option.map_eq_some_iff.1 hi
  unfold amakeSlice
  simp only [show E.P.underlying 51 = some (.slice 5) from Tryz.underlying51, hz, h1, h2]
  rw [wrap_i64 (n := (c : Int)) (by omega) (by omega), if_pos (by omega)]
  simp
theorem rowK_zero : List.replicate 32 (Value.int .u8 0) = rowK .u8 32 fun _ => 0 := by kernel_rfl
noncomputable def text32 (w : Nat → Nat) : ByteArray := bytesOfL (((List.range 32).map fun j => ((w j : Nat) : Int)).map fun n => UInt8.ofNat n.toNat)
def num32 (w : Nat → Nat) : Nat := val ((List.range 32).map w)
theorem text32_val {w : Nat → Nat} (hw : ∀ i, w i < 256) : natsOf (text32 w) = (List.range 32).map w := by
  unfold natsOf text32
  rw [bytesOfL_list, List.map_map, List.map_map]
  apply List.map_congr_left
  intro j _
  have := hw j
  simp only [Function.comp, Int.toNat_natCast, UInt8.toNat_ofNat']
  omega
theorem text32_len (w : Nat → Nat) : (text32 w).data.toList.length = 32 := by
  unfold text32
  rw [bytesOfL_list]
  simp
theorem num32_lt {w : Nat → Nat} (hw : ∀ i, w i < 256) : num32 w < 256 ^ 32 := by
  have := val_lt (l := (List.range 32).map w) (fun x hx => by
    obtain ⟨j, _, rfl⟩ := List.mem_map.1 hx
    exact hw j)
  rw [List.length_map, List.length_range] at this
  exact this
section
variable {self : Self} {nf : Nat} {m M : Mem} {F : Nat → Value} {i p q : Nat} {w v : Nat → Nat}
theorem rof5_it (h1 : F 1 = .pointer (some ⟨p, 0, none⟩)) (h3 : F 3 = .slice (some ⟨q, 0, none⟩) 32 32) (h4 : F 4 = .int .i64 (i : Nat)) (hi : i < 32) (hp : M[p]? = some (.row false 23 (rowK .u8 32 w))) (hq : M[q]? = some (.row false 5 (rowK .u8 32 v))) :
    ∃ F', acodeN E self nf lprof5_0 (lst F 20) M = some (.normal, lst F' 20, M.set q (.row false 5 (rowK .u8 32 fun j => if j = i then w i else v j))) ∧ F' 1 = F 1 ∧ F' 3 = F 3 ∧ F' 4 = .int .i64 ((i + 1 : Nat) : Int) := by
  have q2 : decide (((i : Nat) : Int) < 32) = true := decide_eq_true (by omega)
  have i1 := a46.ix (p := p) (j := i) hi
  have c1 := cellK hp hi
  have i2 := ix35 (b := q) (L := 32) (c := 32) hi
  have st := a46.storeE (x := w i) hq hi
  have ld := a46.loadE p i M
  have e4 := w1 (i := i) (by omega)
  simp only [lprof5_0_eq, erof5_0, erof5_1, erof5_2, erof5_3, erof5_4, erof5_5, erof5_6, lrof5_0, lrof5_1, lrof5_2, lrof5_3, lrof5_4, lrof5_5, lrof5_6, agd_none, gdAt, gdV_bool, gdV_undef, Tryz.f6, List.append_eq, List.cons_append, List.nil_append, apure_call1, apure_call2, apure_call3, bft, btf, acodeN, List.getElem?_toArray, List.getElem?_cons_zero, List.getElem?_cons_succ, aopsN, adrawT, cls, astep, aop, afloat, ev, nth_lst, get_lst, aput, setAt_lst, upd_at, init_zero, init_succ, init_nil, Nat.reduceLT, Nat.reduceEqDiff, reduceIte, len_N, abuiltin_app, Option.map_some, Option.map_none, orElse_some, apure_add, apure_eqlV, eqlVal_str, eqlVal_bool, eqlVal_ptr, eqlVal_slice, eqlVal_wide, eqlVal_int, allT, ↓aop_eqlV, apure_neq, List.map_cons, List.map_nil, List.all_cons, List.all_nil, lit2, lit1, lit0, List.isEmpty_nil, bls, Bool.false_eq_true, if_true, if_false, List.length_map, beq_self_eq_true, uns, h1, h3, h4, lss64, q2, i1, ld, c1, i2, st, add64', e4]
  exact ⟨_, rfl, by simp only [upd_at, Nat.reduceEqDiff, reduceIte, h1], by simp only [upd_at, Nat.reduceEqDiff, reduceIte, h3], by simp only [upd_at, Nat.reduceEqDiff, reduceIte]⟩
theorem rof5_ex (h4 : F 4 = .int .i64 (i : Nat)) (hi : 32 ≤ i) : ∃ F', acodeN E self nf lprof5_0 (lst F 20) M = some (.exit 0, lst F' 20, M) ∧ F' 3 = F 3 := by
  have q2 : decide (((i : Nat) : Int) < 32) = false := decide_eq_false (by omega)
  simp only [lprof5_0_eq, erof5_0, erof5_1, erof5_2, erof5_3, erof5_4, erof5_5, erof5_6, lrof5_0, lrof5_1, lrof5_2, lrof5_3, lrof5_4, lrof5_5, lrof5_6, agd_none, gdAt, gdV_bool, gdV_undef, Tryz.f6, List.append_eq, List.cons_append, List.nil_append, apure_call1, apure_call2, apure_call3, bft, btf, acodeN, List.getElem?_toArray, List.getElem?_cons_zero, List.getElem?_cons_succ, aopsN, adrawT, cls, astep, aop, afloat, ev, nth_lst, get_lst, aput, setAt_lst, upd_at, init_zero, init_succ, init_nil, Nat.reduceLT, Nat.reduceEqDiff, reduceIte, len_N, abuiltin_app, Option.map_some, Option.map_none, orElse_some, apure_add, apure_eqlV, eqlVal_str, eqlVal_bool, eqlVal_ptr, eqlVal_slice, eqlVal_wide, eqlVal_int, allT, ↓aop_eqlV, apure_neq, List.map_cons, List.map_nil, List.all_cons, List.all_nil, lit2, lit1, lit0, List.isEmpty_nil, bls, Bool.false_eq_true, if_true, if_false, List.length_map, beq_self_eq_true, uns, h4, lss64, q2]
  exact ⟨_, rfl, by simp only [upd_at, Nat.reduceEqDiff, reduceIte]⟩
theorem rof5_body (co : COf self) (cr : CRed self) (hw : ∀ i, w i < 256) (hnf : 1000 < nf) : ∃ v m', abody E self nf 6 [arrK .u8 32 w] m = some (v, m') ∧ NumB m.length v m' (num32 w % p5) := by
  rw [abody_eqF (by kernel_rfl) Tryz.func6 bodyrof5 (by kernel_rfl) (Nat.le_of_ble_eq_true rfl)]
  rw [show Tryz.f6.ntmps = 20 from rfl]
  have b1 := a46.box (w := w) (m := m)
  obtain ⟨A, hA⟩ : ∃ A, A = m ++ [Blk.row false 23 (rowK .u8 32 w)] := ⟨_, rfl⟩
  rw [← hA] at b1
  have lA : A.length = m.length + 1 := by rw [hA]; simp
  have b2 := make35n 32 (by omega) A
  rw [lA, rowK_zero, show (((32 : Nat) : Int)) = 32 from rfl] at b2
  obtain ⟨N, hN⟩ : ∃ N, N = A ++ [Blk.row false 5 (rowK .u8 32 fun _ => 0)] := ⟨_, rfl⟩
  rw [← hN] at b2
  have lN : N.length = m.length + 2 := by rw [hN]; simp [lA]
  have gp : N[m.length]? = some (.row false 23 (rowK .u8 32 w)) := by rw [hN, List.getElem?_append_left (by omega), hA]; simp
  have gq : N[m.length + 1]? = some (.row false 5 (rowK .u8 32 fun _ => 0)) := by rw [hN, ← lA]; simp
  have hl := aloop_inv (body := acodeN E self nf lprof5_0) (N := 32)
    (I := fun i T M => ∃ G, T = lst G 20 ∧ G 1 = .pointer (some ⟨m.length, 0, none⟩) ∧ G 3 = .slice (some ⟨m.length + 1, 0, none⟩) 32 32 ∧ G 4 = .int .i64 (i : Nat) ∧ M.length = m.length + 2 ∧ M[m.length + 1]? = some (.row false 5 (rowK .u8 32 fun j => if j < i then w j else 0)) ∧ M[m.length]? = some (.row false 23 (rowK .u8 32 w)))
    (Q := fun e T M => e = .exit 0 ∧ ∃ G, T = lst G 20 ∧ G 3 = .slice (some ⟨m.length + 1, 0, none⟩) 32 32 ∧ M.length = m.length + 2 ∧ M[m.length + 1]? = some (.row false 5 (rowK .u8 32 w))) (fun i T M hi hI => by
      obtain ⟨G, rfl, g1, g3, g4, gl, gr, gb⟩ := hI
      by_cases hlt : i < 32
      · left
        obtain ⟨F', hr, f1, f3, f4⟩ := rof5_it (self := self) (nf := nf) g1 g3 g4 hlt gb gr
        refine ⟨_, _, hr, by omega, F', rfl, f1.trans g1, f3.trans g3, f4, by rw [List.length_set]; exact gl, ?_, by rw [List.getElem?_set_ne (by omega)]; exact gb⟩
        rw [List.getElem?_set_self (lt_of_at gr)]
        refine congrArg (fun l => some (Blk.row false 5 l)) (rowK_ext fun j _ => ?_)
        by_cases hj : j = i
        · subst hj
          rw [if_pos rfl, if_pos (by omega)]
        · rw [if_neg hj]
          by_cases hj2 : j < i
          · rw [if_pos hj2, if_pos (by omega)]
          · rw [if_neg hj2, if_neg (by omega)]
      · right
        obtain ⟨F', hr, f3⟩ := rof5_ex (self := self) (nf := nf) (M := M) g4 (by omega)
        refine ⟨_, _, _, hr, by simp, rfl, F', rfl, f3.trans g3, gl, ?_⟩
        rw [gr]
        refine congrArg (fun l => some (Blk.row false 5 l)) (rowK_ext fun j hj => ?_)
        rw [if_pos (by omega)])
  obtain ⟨e, T', M1, hr, rfl, G, rfl, g3, gl, gr⟩ := hl 32 0 nf (lst (upd (upd (upd (upd (upd (init [arrK .u8 32 w]) 1 (.pointer (some ⟨m.length, 0, none⟩))) 2 (.slice none 0 0)) 5 (.slice (some ⟨m.length + 1, 0, none⟩) 32 32)) 3 (.slice (some ⟨m.length + 1, 0, none⟩) 32 32)) 4 (.int .i64 0)) 20) N (by omega) (by omega) ⟨_, rfl, rfl, rfl, rfl, lN, by rw [gq]; simp, gp⟩
  have e1 : aconvB E.P 51 9 (.slice (some ⟨m.length + 1, 0, none⟩) 32 32) M1 = some (.string (text32 w), M1) := conv35_str (l := (List.range 32).map fun j => ((w j : Nat) : Int)) gr (by rw [List.take_of_length_le (by rw [rowK_length]; omega), List.map_map]; rfl) (by rw [rowK_length]; omega)
  obtain ⟨u, m2, e2, r2⟩ := co M1 (text32 w) (by rw [text32_len]; omega)
  rw [text32_val hw] at r2
  have r2 : NumR M1 u m2 (num32 w) := r2
  obtain ⟨z, m3, e3, r3⟩ := cr.new (B := m.length) (r2.b.mono (by omega)) (lt_pow (num32_lt hw) (by omega)) (by have := r2.keeps.1; omega)
  have c0 := aconv35
  generalize arrK .u8 32 w = vw at *
  generalize text32 w = tw at *
  generalize num32 w = nw at *
  clear gr gp gq hl hN hA
  simp only [erof5_0, erof5_1, erof5_2, erof5_3, erof5_4, erof5_5, erof5_6, lrof5_0, lrof5_1, lrof5_2, lrof5_3, lrof5_4, lrof5_5, lrof5_6, agd_none, gdAt, gdV_bool, gdV_undef, Tryz.f6, List.append_eq, List.cons_append, List.nil_append, apure_call1, apure_call2, apure_call3, bft, btf, acodeN, List.getElem?_toArray, List.getElem?_cons_zero, List.getElem?_cons_succ, aopsN, adrawT, cls, astep, aop, afloat, ev, nth_lst, get_lst, aput, setAt_lst, upd_at, init_zero, init_succ, init_nil, Nat.reduceLT, Nat.reduceEqDiff, reduceIte, len_N, abuiltin_app, Option.map_some, Option.map_none, orElse_some, apure_add, apure_eqlV, eqlVal_str, eqlVal_bool, eqlVal_ptr, eqlVal_slice, eqlVal_wide, eqlVal_int, allT, ↓aop_eqlV, apure_neq, List.map_cons, List.map_nil, List.all_cons, List.all_nil, lit2, lit1, lit0, List.isEmpty_nil, bls, Bool.false_eq_true, if_true, if_false, List.length_map, beq_self_eq_true, uns, b1, b2, hr, g3, c0, apure_convert, isAddr, e1, callOf, e2, callRed, e3, finish, ares, aresL, ares1]
  exact ⟨_, _, rfl, r3⟩
end
def COf5 (self : Self) : Prop := ∀ (m : Mem) (w : Nat → Nat), (∀ i, w i < 256) → ∃ v m', ainv E self 6 [arrK .u8 32 w] m = some (v, m') ∧ NumR m v m' (num32 w % p5)
theorem cof5 {R : Nat → Self} {K : List Fact} (hR : Runs R K) {n : Nat} (hK : hasF K 6 = false) (hn : 1000 ≤ n) (co : COf (R n)) (cr : CRed (R n)) : COf5 (R (n + 1)) := by
  intro m w hw
  obtain ⟨v, m1, h1, h2⟩ := rof5_body (self := R n) (nf := n + 1) (m := (m.take E.G).map onlyTab) co cr hw (by omega)
  unfold ainv
  rw [show ([arrK .u8 32 w].all lit2) = true by simp only [List.all_cons, arrK_lit]; rfl, show E.fast 6 = none from by kernel_rfl]
  simp only [if_true, hR.b hK h1]
  exact h2.coll
theorem p5_eq : P25519 = p5 := by decide +kernel
theorem callByt5 : callableB E.P 40 = true := by kernel_rfl
section
variable {self : Self} {nf : Nat} {m : Mem} {a : Value} {X y : Nat}
theorem is5_body (hby : ∀ X, Ans self 7 [el X] (arrK .u8 32 (byteX X))) (cb : CByt5 self) (hN : NumA m a (dig y)) (hX : X < P25519) (hy : y < p5) :
    ∃ m', abody E self nf 13 [el X, a] m = some (.bool (decide (X = y)), m') := by
  rw [abody_eqF (by kernel_rfl) Tryz.func13 bodyis5 (by kernel_rfl) (Nat.le_of_ble_eq_true rfl)]
  rw [show Tryz.f13.ntmps = 10 from rfl]
  have b1 := box48 (wd 0 X) (wd 1 X) (wd 2 X) (wd 3 X) m
  obtain ⟨A, hA⟩ : ∃ A, A = m ++ [Blk.row false 27 (c4 (wd 0 X) (wd 1 X) (wd 2 X) (wd 3 X))] := ⟨_, rfl⟩
  rw [← hA] at b1
  have kA : Kept m A := by rw [hA]; exact Kept.app _ _
  have l1 : aload E.P 27 (.pointer (some ⟨m.length, 0, none⟩)) A = some (st4 (wd 0 X) (wd 1 X) (wd 2 X) (wd 3 X)) := load48 (ro := false) (e := 27) (by rw [hA]; simp)
  rw [← el_st] at b1 l1
  have c1 := hby X A
  have c2 := cb A a y (hN.on kA) (Nat.lt_trans hy p5_lt)
  have hs := bytes_same hX (by rw [p5_eq]; exact hy : y < P25519)
  simp only [eis5_0, eis5_1, lis5_0, lis5_1, agd_none, gdAt, gdV_bool, gdV_undef, Tryz.f13, List.append_eq, List.cons_append, List.nil_append, apure_call1, apure_call2, apure_call3, bft, btf, acodeN, List.getElem?_toArray, List.getElem?_cons_zero, List.getElem?_cons_succ, aopsN, adrawT, cls, astep, aop, afloat, ev, nth_lst, get_lst, aput, setAt_lst, upd_at, init_zero, init_succ, init_nil, Nat.reduceLT, Nat.reduceEqDiff, reduceIte, len_N, abuiltin_app, Option.map_some, Option.map_none, orElse_some, apure_add, apure_eqlV, eqlVal_str, eqlVal_bool, eqlVal_ptr, eqlVal_slice, eqlVal_wide, eqlVal_int, allT, ↓aop_eqlV, apure_neq, List.map_cons, List.map_nil, List.all_cons, List.all_nil, lit2, lit1, lit0, List.isEmpty_nil, bls, Bool.false_eq_true, if_true, if_false, List.length_map, beq_self_eq_true, uns, b1, l1, callBy, c1, callByt5, c2, eql46, hs, finish, ares, aresL, ares1]
  exact ⟨_, rfl⟩
end
def CIs5 (self : Self) : Prop := ∀ (m : Mem) (a : Value) (X y : Nat), NumA m a (dig y) → X < P25519 → y < p5 → ainv E self 13 [el X, a] m = some (.bool (decide (X = y)), m)
theorem cis5 {R : Nat → Self} {K : List Fact} (hR : Runs R K) {n : Nat} (hK : hasF K 13 = false) (hby : ∀ X, Ans (R n) 7 [el X] (arrK .u8 32 (byteX X))) (cb : CByt5 (R n)) : CIs5 (R (n + 1)) := by
  intro m a X y ha hX hy
  by_cases hl : ([el X, a].all lit2) = true
  · have hl9 := hl
    simp only [List.all_cons, List.all_nil, Bool.and_true, Bool.and_eq_true] at hl9
    obtain ⟨rfl, h1⟩ := ha.lit hl9.2
    obtain ⟨m', hb⟩ := is5_body (self := R n) (nf := n + 1) (m := (m.take E.G).map onlyTab) (a := .slice none 0 0) (X := X) (y := y) hby cb (by rw [h1]; exact NumA.nil _) hX hy
    exact ainv_lit hl (by kernel_rfl) (hR.b hK hb) rfl
  · obtain ⟨m', hb⟩ := is5_body (self := R n) (nf := n + 1) hby cb ha.sealed hX hy
    exact ainv_look (by simpa using hl) (by kernel_rfl) (hR.b hK hb) rfl
end Go.Am.Seat
namespace Go.Am.Seat
open Go.Proofs Go.Am
noncomputable def rrpow_0 : Array Oper := match Tryz.f19.body with
  | some (.seq (.region _ o _) _) => o
  | _ => #[]
noncomputable def lrpow_0 : List Oper := match Tryz.f19.body with
  | some (.seq (.region _ o _) _) => o.toList
  | _ => []
theorem erpow_0 : rrpow_0.toList = lrpow_0 := rfl
noncomputable def rrpow_1 : Array Oper := match Tryz.f19.body with
  | some (.seq _ (.seq (.region _ o _) _)) => o
  | _ => #[]
noncomputable def lrpow_1 : List Oper := match Tryz.f19.body with
  | some (.seq _ (.seq (.region _ o _) _)) => o.toList
  | _ => []
theorem erpow_1 : rrpow_1.toList = lrpow_1 := rfl
noncomputable def rrpow_2 : Array Oper := match Tryz.f19.body with
  | some (.seq _ (.seq _ (.seq (.seq (.region _ o _) _) _))) => o
  | _ => #[]
noncomputable def lrpow_2 : List Oper := match Tryz.f19.body with
  | some (.seq _ (.seq _ (.seq (.seq (.region _ o _) _) _))) => o.toList
  | _ => []
theorem erpow_2 : rrpow_2.toList = lrpow_2 := rfl
noncomputable def lprpow_0 : Code := match Tryz.f19.body with
  | some (.seq _ (.seq _ (.seq (.seq _ (.block _ (.loop c))) _))) => c
  | _ => .skip
noncomputable def rrpow_3 : Array Oper := match Tryz.f19.body with
  | some (.seq _ (.seq _ (.seq (.seq _ (.block _ (.loop (.seq (.seq (.region _ o _) _) _)))) _))) => o
  | _ => #[]
noncomputable def lrpow_3 : List Oper := match Tryz.f19.body with
  | some (.seq _ (.seq _ (.seq (.seq _ (.block _ (.loop (.seq (.seq (.region _ o _) _) _)))) _))) => o.toList
  | _ => []
theorem erpow_3 : rrpow_3.toList = lrpow_3 := rfl
noncomputable def rrpow_5 : Array Oper := match Tryz.f19.body with
  | some (.seq _ (.seq _ (.seq (.seq _ (.block _ (.loop (.seq _ (.seq (.block _ (.seq (.region _ o _) _)) _))))) _))) => o
  | _ => #[]
noncomputable def lrpow_5 : List Oper := match Tryz.f19.body with
  | some (.seq _ (.seq _ (.seq (.seq _ (.block _ (.loop (.seq _ (.seq (.block _ (.seq (.region _ o _) _)) _))))) _))) => o.toList
  | _ => []
theorem erpow_5 : rrpow_5.toList = lrpow_5 := rfl
noncomputable def rrpow_6 : Array Oper := match Tryz.f19.body with
  | some (.seq _ (.seq _ (.seq (.seq _ (.block _ (.loop (.seq _ (.seq (.block _ (.seq _ (.seq (.region _ o _) _))) _))))) _))) => o
  | _ => #[]
noncomputable def lrpow_6 : List Oper := match Tryz.f19.body with
  | some (.seq _ (.seq _ (.seq (.seq _ (.block _ (.loop (.seq _ (.seq (.block _ (.seq _ (.seq (.region _ o _) _))) _))))) _))) => o.toList
  | _ => []
theorem erpow_6 : rrpow_6.toList = lrpow_6 := rfl
noncomputable def rrpow_7 : Array Oper := match Tryz.f19.body with
  | some (.seq _ (.seq _ (.seq (.seq _ (.block _ (.loop (.seq _ (.seq (.block _ (.seq _ (.seq _ (.cond _ (.region _ o _) _)))) _))))) _))) => o
  | _ => #[]
noncomputable def lrpow_7 : List Oper := match Tryz.f19.body with
  | some (.seq _ (.seq _ (.seq (.seq _ (.block _ (.loop (.seq _ (.seq (.block _ (.seq _ (.seq _ (.cond _ (.region _ o _) _)))) _))))) _))) => o.toList
  | _ => []
theorem erpow_7 : rrpow_7.toList = lrpow_7 := rfl
noncomputable def rrpow_4 : Array Oper := match Tryz.f19.body with
  | some (.seq _ (.seq _ (.seq (.seq _ (.block _ (.loop (.seq _ (.seq _ (.region _ o _)))))) _))) => o
  | _ => #[]
noncomputable def lrpow_4 : List Oper := match Tryz.f19.body with
  | some (.seq _ (.seq _ (.seq (.seq _ (.block _ (.loop (.seq _ (.seq _ (.region _ o _)))))) _))) => o.toList
  | _ => []
theorem erpow_4 : rrpow_4.toList = lrpow_4 := rfl
theorem lprpow_0_eq : lprpow_0 = (.seq (.seq (.region 3 rrpow_3 false) (.cond (.tmp 12) .skip (.exit 0))) (.seq (.block 1 (.seq (.region 5 rrpow_5 false) (.seq (.region 6 rrpow_6 false) (.cond (.tmp 21) (.region 7 rrpow_7 false) .skip)))) (.region 4 rrpow_4 false))) := rfl
noncomputable def rrpow_8 : Array Oper := match Tryz.f19.body with
  | some (.seq _ (.seq _ (.seq _ (.seq (.region _ o _) _)))) => o
  | _ => #[]
noncomputable def lrpow_8 : List Oper := match Tryz.f19.body with
  | some (.seq _ (.seq _ (.seq _ (.seq (.region _ o _) _)))) => o.toList
  | _ => []
theorem erpow_8 : rrpow_8.toList = lrpow_8 := rfl
theorem bodyrpow : Tryz.f19.body = some (.seq (.region 0 rrpow_0 false) (.seq (.region 1 rrpow_1 false) (.seq (.seq (.region 2 rrpow_2 false) (.block 0 (.loop lprpow_0))) (.seq (.region 8 rrpow_8 false) .ret)))) := rfl
-- ntmps 26
theorem callMulF5 : callableB E.P 33 = true := by kernel_rfl
theorem callLenR : callableB E.P 44 = true := by kernel_rfl
theorem callPow5 : callableB E.P 19 = true := by kernel_rfl
theorem callDivR : callableB E.P 10 = true := by kernel_rfl
theorem callAbsR : callableB E.P 43 = true := by kernel_rfl
theorem callI5 : callableB E.P 17 = true := by kernel_rfl
theorem callInv5 : callableB E.P 15 = true := by kernel_rfl
theorem callRoot5 : callableB E.P 34 = true := by kernel_rfl
theorem lit_row {c : Nat} (h : 0 < c) (h9 : c < 256) {m : Mem} : NumA (m ++ [Blk.row false 3 [.int .i64 ((c : Nat) : Int)]]) (.slice (some ⟨m.length, 0, none⟩) 1 1) (dig c) := by
  have e : dig c = [c] := by rw [dig_pos (by omega), show c / 256 = 0 by omega, dig_zero, Nat.mod_eq_of_lt h9]
  rw [e]
  exact NumA.row (L := [c]) (ro := false) (by rw [List.getElem?_append_right (Nat.le_refl _), Nat.sub_self]; rfl) (Nat.le_refl _)
theorem num1_call {self : Self} {g : FuncId} {m : Mem} {a : Value} {la : List Nat} {r : Nat} (hf : E.fast g = none) (hw : E.wr g = false) (ha : NumA m a la)
    (h : ∀ M : Mem, NumA M a la → ∃ v m1, self g [a] M = some (v, m1) ∧ NumB M.length v m1 r) : ∃ v m', ainv E self g [a] m = some (v, m') ∧ NumR m v m' r := by
  unfold ainv
  by_cases hl : ([a].all lit2) = true
  · rw [if_pos hl, hf]
    simp only [List.all_cons, List.all_nil, Bool.and_true] at hl
    obtain ⟨rfl, rfl⟩ := ha.lit hl
    obtain ⟨v, m1, h1, h2⟩ := h ((m.take E.G).map onlyTab) (NumA.nil _)
    simp only [h1]
    exact h2.coll
  · rw [if_neg hl, hw]
    obtain ⟨v, m1, h1, h2⟩ := h (m.map sealed) ha.sealed
    simp only [Bool.false_eq_true, if_false, h1]
    exact h2.coll
theorem num1_callT {self : Self} {g : FuncId} {m : Mem} {a : Value} {la : List Nat} {r : Nat} {t : Bool} (hf : E.fast g = none) (hw : E.wr g = false) (ha : NumA m a la)
    (h : ∀ M : Mem, NumA M a la → ∃ v m1, self g [a] M = some (.tuple ⟨[v, .bool t]⟩, m1) ∧ NumB M.length v m1 r) : ∃ v m', ainv E self g [a] m = some (.tuple ⟨[v, .bool t]⟩, m') ∧ NumR m v m' r := by
  unfold ainv
  by_cases hl : ([a].all lit2) = true
  · rw [if_pos hl, hf]
    simp only [List.all_cons, List.all_nil, Bool.and_true] at hl
    obtain ⟨rfl, rfl⟩ := ha.lit hl
    obtain ⟨v, m1, h1, h2⟩ := h ((m.take E.G).map onlyTab) (NumA.nil _)
    simp only [h1]
    exact h2.coll2
  · rw [if_neg hl, hw]
    obtain ⟨v, m1, h1, h2⟩ := h (m.map sealed) ha.sealed
    simp only [Bool.false_eq_true, if_false, h1]
    exact h2.coll2
theorem num2_callT {self : Self} {g : FuncId} {m : Mem} {a b : Value} {la lb : List Nat} {r : Nat} {t : Bool} (hf : E.fast g = none) (hw : E.wr g = false) (ha : NumA m a la) (hb : NumA m b lb)
    (h : ∀ M : Mem, NumA M a la → NumA M b lb → ∃ v m1, self g [a, b] M = some (.tuple ⟨[v, .bool t]⟩, m1) ∧ NumB M.length v m1 r) : ∃ v m', ainv E self g [a, b] m = some (.tuple ⟨[v, .bool t]⟩, m') ∧ NumR m v m' r := by
  unfold ainv
  by_cases hl : ([a, b].all lit2) = true
  · rw [if_pos hl, hf]
    simp only [List.all_cons, List.all_nil, Bool.and_true, Bool.and_eq_true] at hl
    obtain ⟨rfl, rfl⟩ := ha.lit hl.1
    obtain ⟨rfl, rfl⟩ := hb.lit hl.2
    obtain ⟨v, m1, h1, h2⟩ := h ((m.take E.G).map onlyTab) (NumA.nil _) (NumA.nil _)
    simp only [h1]
    exact h2.coll2
  · rw [if_neg hl, hw]
    obtain ⟨v, m1, h1, h2⟩ := h (m.map sealed) ha.sealed hb.sealed
    simp only [Bool.false_eq_true, if_false, h1]
    exact h2.coll2
section
variable {self : Self} {nf : Nat} {m : Mem} {F : Nat → Value} {a b : Value} {x y B z e i : Nat}
theorem lt32 (x : Nat) : x % p5 < 256 ^ 32 := Nat.lt_trans (Nat.mod_lt _ (by decide +kernel)) p5_lt
theorem rpow_5 (cm : CMul5 self) (hz : NumB B (F 5) m z) (hz9 : z < 256 ^ 32) (hB : B ≤ m.length) :
    ∃ F' m', acodeN E self nf (.region 5 rrpow_5 false) (lst F 26) m = some (.normal, lst F' 26, m') ∧ F' 0 = F 0 ∧ F' 1 = F 1 ∧ F' 6 = F 6 ∧ NumB B (F' 5) m' (z * z % p5) ∧ Kept m m' := by
  generalize hv : F 5 = v at hz
  obtain ⟨u, m1, e1, r1⟩ := cm m v v z z hz.s.a hz.s.a hz9 hz9
  simp only [erpow_0, erpow_1, erpow_2, erpow_3, erpow_4, erpow_5, erpow_6, erpow_7, erpow_8, lrpow_0, lrpow_1, lrpow_2, lrpow_3, lrpow_4, lrpow_5, lrpow_6, lrpow_7, lrpow_8, agd_none, gdAt, gdV_bool, gdV_undef, Tryz.f19, List.append_eq, List.cons_append, List.nil_append, apure_call1, apure_call2, apure_call3, bft, btf, acodeN, List.getElem?_toArray, List.getElem?_cons_zero, List.getElem?_cons_succ, aopsN, adrawT, cls, astep, aop, afloat, ev, nth_lst, get_lst, aput, setAt_lst, upd_at, init_zero, init_succ, init_nil, Nat.reduceLT, Nat.reduceEqDiff, reduceIte, len_N, abuiltin_app, Option.map_some, Option.map_none, orElse_some, apure_add, apure_eqlV, eqlVal_str, eqlVal_bool, eqlVal_ptr, eqlVal_slice, eqlVal_wide, eqlVal_int, allT, ↓aop_eqlV, apure_neq, List.map_cons, List.map_nil, List.all_cons, List.all_nil, lit2, lit1, lit0, List.isEmpty_nil, bls, Bool.false_eq_true, if_true, if_false, List.length_map, beq_self_eq_true, uns, hv, callMulF5, e1]
  exact ⟨_, _, rfl, by simp only [upd_at, Nat.reduceEqDiff, reduceIte], by simp only [upd_at, Nat.reduceEqDiff, reduceIte], by simp only [upd_at, Nat.reduceEqDiff, reduceIte], by simp only [upd_at, Nat.reduceEqDiff, reduceIte]; exact r1.b.mono hB, r1.keeps⟩
theorem rpow_6 (cm : CMul5 self) (cb : CBit self) (h0 : F 0 = a) (h1 : F 1 = b) (h6 : F 6 = .int .i64 (i : Nat)) (hA : NumA m a (dig x)) (hx : x < 256 ^ 32) (hE : NumA m b (dig e)) (hi : i < 90000) (hz : NumB B (F 5) m z) (hz9 : z < 256 ^ 32) (hB : B ≤ m.length) :
    ∃ F' m', acodeN E self nf (.seq (.region 6 rrpow_6 false) (.cond (.tmp 21) (.region 7 rrpow_7 false) .skip)) (lst F 26) m = some (.normal, lst F' 26, m') ∧ F' 0 = F 0 ∧ F' 1 = F 1 ∧ F' 6 = F 6 ∧ NumB B (F' 5) m' (if e / 2 ^ i % 2 = 1 then z * x % p5 else z) ∧ Kept m m' := by
  generalize hv : F 5 = v at hz
  have q1 := cb m b e i hE (by omega)
  rcases Nat.mod_two_eq_zero_or_one (e / 2 ^ i) with hb | hb
  · rw [hb] at q1 ⊢
    have q2 : (((0 : Nat) : Int) == 1) = false := rfl
    rw [if_neg (by omega)]
    simp only [erpow_0, erpow_1, erpow_2, erpow_3, erpow_4, erpow_5, erpow_6, erpow_7, erpow_8, lrpow_0, lrpow_1, lrpow_2, lrpow_3, lrpow_4, lrpow_5, lrpow_6, lrpow_7, lrpow_8, agd_none, gdAt, gdV_bool, gdV_undef, Tryz.f19, List.append_eq, List.cons_append, List.nil_append, apure_call1, apure_call2, apure_call3, bft, btf, acodeN, List.getElem?_toArray, List.getElem?_cons_zero, List.getElem?_cons_succ, aopsN, adrawT, cls, astep, aop, afloat, ev, nth_lst, get_lst, aput, setAt_lst, upd_at, init_zero, init_succ, init_nil, Nat.reduceLT, Nat.reduceEqDiff, reduceIte, len_N, abuiltin_app, Option.map_some, Option.map_none, orElse_some, apure_add, apure_eqlV, eqlVal_str, eqlVal_bool, eqlVal_ptr, eqlVal_slice, eqlVal_wide, eqlVal_int, allT, ↓aop_eqlV, apure_neq, List.map_cons, List.map_nil, List.all_cons, List.all_nil, lit2, lit1, lit0, List.isEmpty_nil, bls, Bool.false_eq_true, if_true, if_false, List.length_map, beq_self_eq_true, uns, hv, h0, h1, h6, callBitR, q1, eql64, q2]
    exact ⟨_, _, rfl, by simp only [upd_at, Nat.reduceEqDiff, reduceIte, h0], by simp only [upd_at, Nat.reduceEqDiff, reduceIte, h1], by simp only [upd_at, Nat.reduceEqDiff, reduceIte, h6], by simp only [upd_at, Nat.reduceEqDiff, reduceIte, hv]; exact hz, Kept.refl _⟩
  · rw [hb] at q1 ⊢
    have q2 : (((1 : Nat) : Int) == 1) = true := rfl
    rw [if_pos rfl]
    obtain ⟨u, m1, e1, r1⟩ := cm m v a z x hz.s.a hA hz9 hx
    simp only [erpow_0, erpow_1, erpow_2, erpow_3, erpow_4, erpow_5, erpow_6, erpow_7, erpow_8, lrpow_0, lrpow_1, lrpow_2, lrpow_3, lrpow_4, lrpow_5, lrpow_6, lrpow_7, lrpow_8, agd_none, gdAt, gdV_bool, gdV_undef, Tryz.f19, List.append_eq, List.cons_append, List.nil_append, apure_call1, apure_call2, apure_call3, bft, btf, acodeN, List.getElem?_toArray, List.getElem?_cons_zero, List.getElem?_cons_succ, aopsN, adrawT, cls, astep, aop, afloat, ev, nth_lst, get_lst, aput, setAt_lst, upd_at, init_zero, init_succ, init_nil, Nat.reduceLT, Nat.reduceEqDiff, reduceIte, len_N, abuiltin_app, Option.map_some, Option.map_none, orElse_some, apure_add, apure_eqlV, eqlVal_str, eqlVal_bool, eqlVal_ptr, eqlVal_slice, eqlVal_wide, eqlVal_int, allT, ↓aop_eqlV, apure_neq, List.map_cons, List.map_nil, List.all_cons, List.all_nil, lit2, lit1, lit0, List.isEmpty_nil, bls, Bool.false_eq_true, if_true, if_false, List.length_map, beq_self_eq_true, uns, hv, h0, h1, h6, callBitR, q1, eql64, q2, callMulF5, e1]
    exact ⟨_, _, rfl, by simp only [upd_at, Nat.reduceEqDiff, reduceIte, h0], by simp only [upd_at, Nat.reduceEqDiff, reduceIte, h1], by simp only [upd_at, Nat.reduceEqDiff, reduceIte, h6], by simp only [upd_at, Nat.reduceEqDiff, reduceIte]; exact r1.b.mono hB, r1.keeps⟩
theorem rpow_4 (h6 : F 6 = .int .i64 (i : Nat)) (hi : i < 90000) : ∃ F', acodeN E self nf (.region 4 rrpow_4 false) (lst F 26) m = some (.normal, lst F' 26, m) ∧ F' 0 = F 0 ∧ F' 1 = F 1 ∧ F' 5 = F 5 ∧ F' 6 = .int .i64 (((i : Nat) : Int) - 1) := by
  have e1 : wrapF .i64 (((i : Nat) : Int) - 1) = ((i : Nat) : Int) - 1 := wrapS (by omega) (by omega)
  simp only [erpow_0, erpow_1, erpow_2, erpow_3, erpow_4, erpow_5, erpow_6, erpow_7, erpow_8, lrpow_0, lrpow_1, lrpow_2, lrpow_3, lrpow_4, lrpow_5, lrpow_6, lrpow_7, lrpow_8, agd_none, gdAt, gdV_bool, gdV_undef, Tryz.f19, List.append_eq, List.cons_append, List.nil_append, apure_call1, apure_call2, apure_call3, bft, btf, acodeN, List.getElem?_toArray, List.getElem?_cons_zero, List.getElem?_cons_succ, aopsN, adrawT, cls, astep, aop, afloat, ev, nth_lst, get_lst, aput, setAt_lst, upd_at, init_zero, init_succ, init_nil, Nat.reduceLT, Nat.reduceEqDiff, reduceIte, len_N, abuiltin_app, Option.map_some, Option.map_none, orElse_some, apure_add, apure_eqlV, eqlVal_str, eqlVal_bool, eqlVal_ptr, eqlVal_slice, eqlVal_wide, eqlVal_int, allT, ↓aop_eqlV, apure_neq, List.map_cons, List.map_nil, List.all_cons, List.all_nil, lit2, lit1, lit0, List.isEmpty_nil, bls, Bool.false_eq_true, if_true, if_false, List.length_map, beq_self_eq_true, uns, h6, sub64', e1]
  exact ⟨_, rfl, by simp only [upd_at, Nat.reduceEqDiff, reduceIte], by simp only [upd_at, Nat.reduceEqDiff, reduceIte], by simp only [upd_at, Nat.reduceEqDiff, reduceIte], by simp only [upd_at, Nat.reduceEqDiff, reduceIte]⟩
theorem rpow_3 (h6 : F 6 = .int .i64 (i : Nat)) : ∃ F', acodeN E self nf (.seq (.region 3 rrpow_3 false) (.cond (.tmp 12) .skip (.exit 0))) (lst F 26) m = some (.normal, lst F' 26, m) ∧ F' 0 = F 0 ∧ F' 1 = F 1 ∧ F' 5 = F 5 ∧ F' 6 = F 6 := by
  have q0 : decide (((i : Nat) : Int) ≥ 0) = true := decide_eq_true (by omega)
  simp only [erpow_0, erpow_1, erpow_2, erpow_3, erpow_4, erpow_5, erpow_6, erpow_7, erpow_8, lrpow_0, lrpow_1, lrpow_2, lrpow_3, lrpow_4, lrpow_5, lrpow_6, lrpow_7, lrpow_8, agd_none, gdAt, gdV_bool, gdV_undef, Tryz.f19, List.append_eq, List.cons_append, List.nil_append, apure_call1, apure_call2, apure_call3, bft, btf, acodeN, List.getElem?_toArray, List.getElem?_cons_zero, List.getElem?_cons_succ, aopsN, adrawT, cls, astep, aop, afloat, ev, nth_lst, get_lst, aput, setAt_lst, upd_at, init_zero, init_succ, init_nil, Nat.reduceLT, Nat.reduceEqDiff, reduceIte, len_N, abuiltin_app, Option.map_some, Option.map_none, orElse_some, apure_add, apure_eqlV, eqlVal_str, eqlVal_bool, eqlVal_ptr, eqlVal_slice, eqlVal_wide, eqlVal_int, allT, ↓aop_eqlV, apure_neq, List.map_cons, List.map_nil, List.all_cons, List.all_nil, lit2, lit1, lit0, List.isEmpty_nil, bls, Bool.false_eq_true, if_true, if_false, List.length_map, beq_self_eq_true, uns, h6, geqI, q0]
  exact ⟨_, rfl, by simp only [upd_at, Nat.reduceEqDiff, reduceIte], by simp only [upd_at, Nat.reduceEqDiff, reduceIte], by simp only [upd_at, Nat.reduceEqDiff, reduceIte], by simp only [upd_at, Nat.reduceEqDiff, reduceIte, h6]⟩
theorem rpow_last (h6 : F 6 = .int .i64 (-1)) : ∃ F', acodeN E self nf lprpow_0 (lst F 26) m = some (.exit 0, lst F' 26, m) ∧ F' 5 = F 5 := by
  have q0 : decide ((-1 : Int) ≥ 0) = false := rfl
  simp only [lprpow_0_eq, erpow_0, erpow_1, erpow_2, erpow_3, erpow_4, erpow_5, erpow_6, erpow_7, erpow_8, lrpow_0, lrpow_1, lrpow_2, lrpow_3, lrpow_4, lrpow_5, lrpow_6, lrpow_7, lrpow_8, agd_none, gdAt, gdV_bool, gdV_undef, Tryz.f19, List.append_eq, List.cons_append, List.nil_append, apure_call1, apure_call2, apure_call3, bft, btf, acodeN, List.getElem?_toArray, List.getElem?_cons_zero, List.getElem?_cons_succ, aopsN, adrawT, cls, astep, aop, afloat, ev, nth_lst, get_lst, aput, setAt_lst, upd_at, init_zero, init_succ, init_nil, Nat.reduceLT, Nat.reduceEqDiff, reduceIte, len_N, abuiltin_app, Option.map_some, Option.map_none, orElse_some, apure_add, apure_eqlV, eqlVal_str, eqlVal_bool, eqlVal_ptr, eqlVal_slice, eqlVal_wide, eqlVal_int, allT, ↓aop_eqlV, apure_neq, List.map_cons, List.map_nil, List.all_cons, List.all_nil, lit2, lit1, lit0, List.isEmpty_nil, bls, Bool.false_eq_true, if_true, if_false, List.length_map, beq_self_eq_true, uns, h6, geqI, q0]
  exact ⟨_, rfl, by simp only [upd_at, Nat.reduceEqDiff, reduceIte]⟩
theorem pow_step (x e i p : Nat) : (if e / 2 ^ i % 2 = 1 then (x ^ (e / 2 ^ (i + 1)) % p) * (x ^ (e / 2 ^ (i + 1)) % p) % p * x % p else (x ^ (e / 2 ^ (i + 1)) % p) * (x ^ (e / 2 ^ (i + 1)) % p) % p) = x ^ (e / 2 ^ i) % p := by
  have hs := shift_step e i
  have h2 : ∀ E, (x ^ E % p) * (x ^ E % p) % p = x ^ (E + E) % p := fun E => by rw [Nat.pow_add, ← Nat.mul_mod]
  rw [h2]
  generalize e / 2 ^ (i + 1) = E at *
  rcases Nat.mod_two_eq_zero_or_one (e / 2 ^ i) with hb | hb
  · rw [hb, Nat.add_zero] at hs
    rw [if_neg (by omega), hs]
  · rw [hb] at hs
    rw [if_pos hb, ← hs, Nat.pow_succ, Nat.mod_mul_mod]
theorem rpow_it (cm : CMul5 self) (cb : CBit self) (h0 : F 0 = a) (h1 : F 1 = b) (h6 : F 6 = .int .i64 (i : Nat)) (hA : NumA m a (dig x)) (hx : x < 256 ^ 32) (hE : NumA m b (dig e)) (hi : i < 90000) (hz : NumB B (F 5) m (x ^ (e / 2 ^ (i + 1)) % p5)) (hB : B ≤ m.length) :
    ∃ F' m', acodeN E self nf lprpow_0 (lst F 26) m = some (.normal, lst F' 26, m') ∧ F' 0 = a ∧ F' 1 = b ∧ F' 6 = .int .i64 (((i : Nat) : Int) - 1) ∧ NumB B (F' 5) m' (x ^ (e / 2 ^ i) % p5) ∧ Kept m m' := by
  rw [← pow_step]
  have hz9 := lt32 (x ^ (e / 2 ^ (i + 1)))
  have hz8 := lt32 ((x ^ (e / 2 ^ (i + 1)) % p5) * (x ^ (e / 2 ^ (i + 1)) % p5))
  obtain ⟨A, r3, a0, a1, a5, a6⟩ := rpow_3 (self := self) (nf := nf) (m := m) (F := F) h6
  obtain ⟨C, m1, r5, c0, c1, c6, c5, k1⟩ := rpow_5 (self := self) (nf := nf) (m := m) (F := A) cm (by rw [a5]; exact hz) hz9 hB
  obtain ⟨D, m2, r6, d0, d1, d6, d5, k2⟩ := rpow_6 (self := self) (nf := nf) (m := m1) (F := C) cm cb (c0.trans (a0.trans h0)) (c1.trans (a1.trans h1)) (c6.trans (a6.trans h6)) (hA.on k1) hx (hE.on k1) hi c5 hz8 (Nat.le_trans hB k1.1)
  obtain ⟨I, r4, i0, i1, i5, i6⟩ := rpow_4 (self := self) (nf := nf) (m := m2) (F := D) (i := i) (d6.trans (c6.trans (a6.trans h6))) hi
  refine ⟨I, m2, ?_, i0.trans (d0.trans (c0.trans (a0.trans h0))), i1.trans (d1.trans (c1.trans (a1.trans h1))), i6, by rw [i5]; exact d5, k1.trans k2⟩
  rw [lprpow_0_eq]
  generalize Code.seq (Code.region 3 rrpow_3 false) (Code.cond (Operand.tmp 12) Code.skip (Code.exit 0)) = C3 at *
  generalize Code.region 5 rrpow_5 false = C5 at *
  generalize Code.seq (Code.region 6 rrpow_6 false) (Code.cond (Operand.tmp 21) (Code.region 7 rrpow_7 false) Code.skip) = C6 at *
  generalize Code.region 4 rrpow_4 false = C4 at *
  simp only [acodeN, r3, r5, r6, r4, if_true]
theorem pow_body (cm : CMul5 self) (cb : CBit self) (cl : CLen self) (hA : NumA m a (dig x)) (hx : x < 256 ^ 32) (hE : NumA m b (dig e)) (he : e < 256 ^ 100) (hnf : 1000 < nf) :
    ∃ v m', abody E self nf 19 [a, b] m = some (v, m') ∧ NumB m.length v m' (x ^ e % p5) := by
  rw [abody_eqF (by kernel_rfl) Tryz.func19 bodyrpow (by kernel_rfl) (Nat.le_of_ble_eq_true rfl)]
  rw [show Tryz.f19.ntmps = 26 from rfl]
  have b1 := build27 1 m
  have k0 := Kept.app m [Blk.row false 3 [.int .i64 1]]
  obtain ⟨L, cl1, hL, hL9, _⟩ := cl (m ++ [Blk.row false 3 [.int .i64 1]]) b e (hE.on k0) (dig_len_le he)
  have e2 : wrapF .i64 (((L : Nat) : Int) - 1) = ((L : Nat) : Int) - 1 := wrapS (by omega) (by omega)
  have hone : NumB m.length (.slice (some ⟨m.length, 0, none⟩) 1 1) (m ++ [Blk.row false 3 [.int .i64 1]]) (x ^ (e / 2 ^ L) % p5) := by
    rw [Nat.div_eq_of_lt hL, Nat.pow_zero]
    refine .inr ⟨[1], 1, m.length, false, Nat.le_refl _, ?_, Nat.le_refl _, rfl, ?_, by simp⟩
    · rw [show 1 % p5 = 1 by decide +kernel, dig_pos (by omega)]; show [1] = (1 % 256) :: dig 0; rw [dig_zero]
    · rw [List.getElem?_append_right (Nat.le_refl _), Nat.sub_self]; rfl
  generalize hM : m ++ [Blk.row false 3 [.int .i64 1]] = M at *
  have hloop := aloop_inv (body := acodeN E self nf lprpow_0) (N := L)
    (I := fun k T m' => Kept M m' ∧ ∃ G, T = lst G 26 ∧ G 0 = a ∧ G 1 = b ∧ G 6 = .int .i64 (((L - k : Nat) : Int) - 1) ∧ NumB m.length (G 5) m' (x ^ (e / 2 ^ (L - k)) % p5))
    (Q := fun q T m' => q = .exit 0 ∧ ∃ G, T = lst G 26 ∧ NumB m.length (G 5) m' (x ^ e % p5)) (fun k T m' hk hI => by
      obtain ⟨gk, G, rfl, g0, g1, g6, g5⟩ := hI
      by_cases hz : L - k = 0
      · right
        rw [hz] at g6 g5
        rw [Nat.pow_zero, Nat.div_one] at g5
        obtain ⟨F', hr, f5⟩ := rpow_last (self := self) (nf := nf) (m := m') (F := G) (g6.trans (by rfl))
        exact ⟨_, _, _, hr, by simp, rfl, F', rfl, by rw [f5]; exact g5⟩
      · left
        obtain ⟨j, hj⟩ : ∃ j, L - k = j + 1 := ⟨L - k - 1, by omega⟩
        rw [hj] at g6 g5
        rw [show (((j + 1 : Nat) : Int) - 1) = ((j : Nat) : Int) by omega] at g6
        obtain ⟨F', m2, hr, f0, f1, f6, f5, kk⟩ := rpow_it (self := self) (nf := nf) cm cb g0 g1 g6 (hA.on (k0.trans gk)) hx (hE.on (k0.trans gk)) (by omega) g5 (k0.trans gk).1
        have h9 : L - (k + 1) = j := by omega
        exact ⟨_, _, hr, by omega, gk.trans kk, F', rfl, f0, f1, by rw [h9]; exact f6, by rw [h9]; exact f5⟩)
  obtain ⟨q, T', m', hr, rfl, G, rfl, g5⟩ := hloop L 0 nf (lst (upd (upd (upd (upd (upd (upd (upd (init [a, b]) 4 (.slice none 0 0)) 7 (.slice (some ⟨m.length, 0, none⟩) 1 1)) 5 (.slice (some ⟨m.length, 0, none⟩) 1 1)) 8 b) 9 (.int .i64 ((L : Nat) : Int))) 10 (.int .i64 (((L : Nat) : Int) - 1))) 6 (.int .i64 (((L : Nat) : Int) - 1))) 26) M (by omega) (by omega) ⟨Kept.refl _, _, rfl, rfl, rfl, rfl, by rw [Nat.sub_zero]; exact hone⟩
  refine ⟨G 5, m', ?_, g5⟩
  simp only [erpow_0, erpow_1, erpow_2, erpow_3, erpow_4, erpow_5, erpow_6, erpow_7, erpow_8, lrpow_0, lrpow_1, lrpow_2, lrpow_3, lrpow_4, lrpow_5, lrpow_6, lrpow_7, lrpow_8, agd_none, gdAt, gdV_bool, gdV_undef, Tryz.f19, List.append_eq, List.cons_append, List.nil_append, apure_call1, apure_call2, apure_call3, bft, btf, acodeN, List.getElem?_toArray, List.getElem?_cons_zero, List.getElem?_cons_succ, aopsN, adrawT, cls, astep, aop, afloat, ev, nth_lst, get_lst, aput, setAt_lst, upd_at, init_zero, init_succ, init_nil, Nat.reduceLT, Nat.reduceEqDiff, reduceIte, len_N, abuiltin_app, Option.map_some, Option.map_none, orElse_some, apure_add, apure_eqlV, eqlVal_str, eqlVal_bool, eqlVal_ptr, eqlVal_slice, eqlVal_wide, eqlVal_int, allT, ↓aop_eqlV, apure_neq, List.map_cons, List.map_nil, List.all_cons, List.all_nil, lit2, lit1, lit0, List.isEmpty_nil, bls, Bool.false_eq_true, if_true, if_false, List.length_map, beq_self_eq_true, uns, b1, callLenR, cl1, sub64', e2, hr, finish, ares, aresL, ares1]
end
def CPow (self : Self) : Prop := ∀ (m : Mem) (a b : Value) (x e : Nat), NumA m a (dig x) → NumA m b (dig e) → x < 256 ^ 32 → e < 256 ^ 100 → ∃ v m', ainv E self 19 [a, b] m = some (v, m') ∧ NumR m v m' (x ^ e % p5)
theorem cpow {R : Nat → Self} {K : List Fact} (hR : Runs R K) {n : Nat} (hK : hasF K 19 = false) (cm : CMul5 (R n)) (cb : CBit (R n)) (cl : CLen (R n)) (hn : 1000 ≤ n) : CPow (R (n + 1)) := by
  intro m a b x e ha hb hx he
  refine num2_call (by kernel_rfl) (by kernel_rfl) ha hb fun M hA hB => ?_
  obtain ⟨v, m1, h1, h2⟩ := pow_body (self := R n) (nf := n + 1) cm cb cl hA hx hB he (by omega)
  exact ⟨v, m1, hR.b hK h1, h2⟩
end Go.Am.Seat
namespace Go.Am.Seat
open Go.Proofs Go.Am Go.Am.Num
-- ntmps 140
theorem callIs5 : callableB E.P 13 = true := by kernel_rfl
theorem notB' (b : Bool) : apU E.P .not 4 4 (.bool b) = some (.bool !b) := by cases b <;> kernel_rfl
theorem TabP.on {m m' : Mem} (h : TabP m) (hk : Kept m m') : TabP m' := by
  unfold TabP at *
  rw [hk.2 _ (List.getElem?_eq_some_iff.1 h).1]
  exact h
theorem load48on {m m' : Mem} {p X : Nat} (h : m[p]? = some (.row false 27 (c4 (wd 0 X) (wd 1 X) (wd 2 X) (wd 3 X)))) (hk : Kept m m') : aload E.P 27 (.pointer (some ⟨p, 0, none⟩)) m' = some (el X) :=
  load48 (ro := false) (e := 27) (by rw [hk.2 _ (List.getElem?_eq_some_iff.1 h).1]; exact h)
theorem CIs5.yes {self : Self} (h : CIs5 self) {m : Mem} {a : Value} {X y : Nat} (hN : NumA m a (dig y)) (hy : y < p5) (e : X = y) : ainv E self 13 [el X, a] m = some (.bool true, m) := by
  subst e
  have := h m a X X hN (by rw [p5_eq]; exact hy) hy
  rw [decide_eq_true rfl] at this
  exact this
section
variable {self : Self} {nf : Nat} {m : Mem} {F : Nat → Value} {px py X Y n : Nat} {u v : Value}
end
end Go.Am.Seat
namespace Go.Am.Seat
open Go.Proofs Go.Am Go.Am.Num
-- ntmps 28
abbrev rowEl (X : Nat) : Blk := .row false 27 (c4 (wd 0 X) (wd 1 X) (wd 2 X) (wd 3 X))
theorem st48z {m : Mem} {p X : Nat} (h : m[p]? = some (.row false 27 (c4 0 0 0 0))) : astore E.P 27 (.pointer (some ⟨p, 0, none⟩)) (el X) m = some (m.set p (rowEl X)) := store48 h rfl
section
variable {self : Self} {nf : Nat} {m M : Mem} {F : Nat → Value} {q pa pr A Z S i : Nat}
end
end Go.Am.Seat
namespace Go.Am.Seat
open Go.Proofs Go.Am Go.Am.Num
set_option maxHeartbeats 4000000
def KB : List Fact := [awakeF5]
theorem KB_hold (F : Fact) (h : F ∈ KB) : F.holds E.P mem5 := by
  simp only [KB, List.mem_cons, List.not_mem_nil, or_false] at h
  subst h
  exact awake05
theorem noF_KB : NoF KB := by
  have h : (fieldFs.all fun f => !hasF KB f) = true := by kernel_rfl
  intro f hf
  have := List.all_eq_true.1 h f hf
  simpa using this
def fn8 (l : List Int) (i : Nat) : Nat := (l.getD i 0).toNat
theorem wf_u8 {n : Int} (h : (Lit.int .u8 n).wf = true) : 0 ≤ n ∧ n < 256 := by
  unfold Lit.wf at h
  simp only [Bool.and_eq_true, decide_eq_true_eq] at h
  have h1 : IntKind.u8.min = 0 := by decide
  have h2 : IntKind.u8.max = 255 := by decide
  rw [h1, h2] at h
  omega
theorem fn8_lt {l : List Int} (h : ∀ n, n ∈ l → (Lit.int .u8 n).wf = true) (i : Nat) : fn8 l i < 256 := by
  unfold fn8
  by_cases hi : i < l.length
  · have := wf_u8 (h l[i] (List.getElem_mem hi))
    simp only [List.getD_eq_getElem?_getD, List.getElem?_eq_getElem hi, Option.getD_some]
    omega
  · rw [List.getD_eq_getElem?_getD, List.getElem?_eq_none (by omega)]
    decide
theorem bytes_arr {l : List Int} (hl : l.length = 32) (h : ∀ n, n ∈ l → (Lit.int .u8 n).wf = true) : Value.agg ⟨l.map (Value.int .u8)⟩ = arrK .u8 32 (fn8 l) := by
  unfold arrK
  congr 2
  apply List.ext_getElem?
  intro j
  by_cases hj : j < 32
  · have hg : l[j]? = some l[j] := by simp [hl, hj]
    rw [rowK_get hj, List.getElem?_map, hg]
    have := wf_u8 (h l[j] (by simp))
    unfold fn8
    rw [List.getD_eq_getElem?_getD, hg]
    show some (Value.int .u8 l[j]) = some (Value.int .u8 ((l[j].toNat : Nat) : Int))
    rw [Int.toNat_of_nonneg this.1]
  · rw [List.getElem?_eq_none (by rw [List.length_map, hl]; omega), List.getElem?_eq_none (by rw [rowK_length]; omega)]
end Go.Am.Seat
namespace Go.Am.Seat
open Go.Proofs Go.Am Go.Am.Num
def KT5 (m : Mem) : Prop := E.G ≤ m.length ∧ (m.take E.G).map onlyTab = mem5
theorem KT5.on {m m' : Mem} (h : KT5 m) (hk : Kept m m') : KT5 m' := by
  refine ⟨Nat.le_trans h.1 hk.1, ?_⟩
  rw [← h.2]
  congr 1
  apply List.ext_getElem?
  intro k
  rw [List.getElem?_take, List.getElem?_take]
  by_cases h1 : k < E.G
  · rw [if_pos h1, if_pos h1, hk.2 k (by have := h.1; omega)]
  · rw [if_neg h1, if_neg h1]
theorem dig_nil {X : Nat} : ((((dig X).length : Nat) : Int) == 0) = decide (X = 0) := by
  by_cases h : X = 0
  · subst h; rw [dig_zero]; rfl
  · rw [decide_eq_false h, beq_eq_false_iff_ne, dig_pos h]
    simp
    omega
theorem cmp_eq {X Y : Nat} : (cmpN X Y == 0) = decide (X = Y) := by
  unfold cmpN
  by_cases h1 : X < Y
  · rw [if_pos h1, decide_eq_false (by omega)]; rfl
  · rw [if_neg h1]
    by_cases h2 : Y < X
    · rw [if_pos h2, decide_eq_false (by omega)]; rfl
    · rw [if_neg h2, decide_eq_true (by omega)]; rfl
theorem same_b (b : Bool) : (b == b) = true := by cases b <;> rfl
section
variable {self : Self} {nf : Nat} {m : Mem} {F : Nat → Value} {px py X Y n : Nat} {u v : Value}
end
end Go.Am.Seat
