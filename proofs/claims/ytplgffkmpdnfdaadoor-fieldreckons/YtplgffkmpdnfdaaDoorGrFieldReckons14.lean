/-
  Texts of my own, put together: M6, PA, PB, Y2.
-/
import Derived.Test.YtplgffkmpdnfdaaDoorGrFieldReckons12
import Derived.Test.YtplgffkmpdnfdaaDoorGrFieldReckons13
import Derived.Test.YtplgffkmpdnfdaaDoorGrFieldReckons8
import Derived.Defers
import Derived.Recover
import Derived.Test.YtplgffkmpdnfdaaDoorGrFieldReckons0
/-
  LimbShifts on the abstract machine: calls (own work).
-/
set_option linter.unusedSimpArgs false
set_option linter.unusedVariables false
namespace Go.Am.Seat
open Go.Proofs Go.Am
set_option maxRecDepth 100000

theorem acoll_old {m m1 : Mem} {n b o k c : Nat} (hb : b < n) : acoll m n (.slice (some ⟨b, o, none⟩) k c) m1 = some (.slice (some ⟨b, o, none⟩) k c, m) := by
  unfold acoll
  rw [if_neg (by simp [lit2, lit1, lit0])]
  simp only [partsOf, idsL, idOf, addIds, hb, if_true, closeIds, List.foldl_nil, nodupB, List.all_nil, Bool.and_self, renB, ren3, ren2, ren1, rid, List.append_nil]

theorem idsL_lit {n : Nat} : ∀ (l : List Value) (acc : List Nat), l.all lit0 = true → idsL n l acc = acc
  | [], _, _ => rfl
  | v :: l, acc, h => by
    simp only [List.all_cons, Bool.and_eq_true] at h
    have hv : idOf n v = [] := by
      have h1 := h.1
      cases v with
      | pointer a => cases a with
        | none => rfl
        | some a => simp [lit0] at h1
      | slice a x y => cases a with
        | none => rfl
        | some a => simp [lit0] at h1
      | func fn a b => simp only [lit0] at h1; simp only [idOf, h1, if_true]
      | _ => rfl
    unfold idsL
    rw [hv]
    exact idsL_lit l acc h.2

theorem renL_id {n N : Nat} {keep : List Nat} : ∀ (l : List Value), l.all lit0 = true → renL n N keep l = some l
  | [], _ => rfl
  | v :: l, h => by
    simp only [List.all_cons, Bool.and_eq_true] at h
    have hv : ren1 n N keep v = some v := by
      have h1 := h.1
      cases v with
      | pointer a => cases a with
        | none => rfl
        | some a => simp [lit0] at h1
      | slice a x y => cases a with
        | none => rfl
        | some a => simp [lit0] at h1
      | func fn a b => simp only [lit0] at h1; simp only [ren1, h1, if_true]
      | _ => first | rfl | simp only [ren1, h1, if_true]
    unfold renL
    rw [hv, renL_id l h.2]

theorem acoll_new {m m1 : Mem} {n b o k c : Nat} {ro : Bool} {e : TypeId} {cs : List Value} (hb : n ≤ b) (hm : m1[b]? = some (.row ro e cs)) (hc : cs.all lit0 = true) :
    acoll m n (.slice (some ⟨b, o, none⟩) k c) m1 = some (.slice (some ⟨m.length, o, none⟩) k c, m ++ [.row ro e cs]) := by
  have hnb : ¬ b < n := by omega
  unfold acoll
  rw [if_neg (by simp [lit2, lit1, lit0])]
  have h1 : idsL n (partsOf (.slice (some ⟨b, o, none⟩) k c)) [] = [b] := by
    simp [partsOf, idsL, idOf, addIds, hnb]
  have h2 : closeIds n m1 2 [b] = [b] := by
    simp only [closeIds, List.foldl_cons, List.foldl_nil, hm, idsL_lit cs [b] hc]
  simp only [h1, h2]
  rw [if_pos (by simp [nodupB, hb])]
  have h3 : rid n m.length [b] b = some m.length := by
    unfold rid
    rw [if_neg hnb]
    simp [List.idxOf?]
  simp only [renB, hm, renL_id cs hc, ren3, ren2, ren1, h3]

theorem trimAt_unique {l : List Nat} {n n' : Nat} (h : TrimAt l n) (h' : TrimAt l n') : n = n' := by
  obtain ⟨a1, a2, a3⟩ := h
  obtain ⟨b1, b2, b3⟩ := h'
  rcases Nat.lt_trichotomy n n' with hlt | he | hlt
  · rcases b3 with h0 | ⟨x, hx, hg⟩
    · omega
    · have := a2 (n' - 1) (by omega) (by omega)
      rw [hg] at this
      cases this
      omega
  · exact he
  · rcases a3 with h0 | ⟨x, hx, hg⟩
    · omega
    · have := b2 (n - 1) (by omega) (by omega)
      rw [hg] at this
      cases this
      omega

theorem trimAt_exists {l : List Nat} (hl : 0 < l.length) (hl' : l.length ≤ 1000) : ∃ n, TrimAt l n := by
  obtain ⟨n, hn, _⟩ := trim_body (self := fun _ _ _ => none) (nf := 1001) (m := [.row true 3 (cellsN l)]) (b := 0) (l := l) (ro := true) rfl hl hl' (by omega)
  exact ⟨n, hn⟩

theorem cellsN_lit (l : List Nat) : (cellsN l).all lit0 = true := by
  unfold cellsN
  rw [List.all_map, List.all_eq_true]
  intro x _
  rfl

section
variable {K : List Fact} {k n b : Nat} {M : Mem} {l : List Nat} {w : Nat → Nat} {Z : Mem}

/-- A call that only looks. -/
theorem ainv_look {self : Self} {g : FuncId} {args : List Value} {m m1 : Mem} {v : Value} (ha : args.all lit2 = false) (hw : E.wr g = false) (h : self g args (m.map sealed) = some (v, m1)) (hv : lit2 v = true) : ainv E self g args m = some (v, m) := by
  unfold ainv
  rw [ha, hw]
  simp only [Bool.false_eq_true, if_false, h]
  unfold acoll
  rw [if_pos hv]

theorem trim_call (hK : hasF K 62 = false) (hn : TrimAt l n) (hk : 1000 ≤ k) (hl : 0 < l.length) (hl' : l.length ≤ 1000) (hM : M[b]? = some (.row false 3 (cellsN l))) :
    ainv E (runK E Z K (k + 1)) 62 [.slice (some ⟨b, 0, none⟩) l.length l.length] M = some (.slice (some ⟨b, 0, none⟩) n l.length, M) := by
  have hs : (M.map sealed)[b]? = some (.row true 3 (cellsN l)) := by rw [List.getElem?_map, hM]; rfl
  obtain ⟨n', hn', hr⟩ := trim_body (self := runK E Z K k) (nf := k + 1) hs hl hl' (by omega)
  have := trimAt_unique hn hn'
  subst this
  have hw : E.wr 62 = false := by kernel_rfl
  unfold ainv
  rw [if_neg (by simp [lit2, lit1, lit0]), hw]
  simp only [Bool.false_eq_true, if_false, runK_other hK, hr]
  exact acoll_old (by rw [List.length_map]; exact lt_of_at hM)

theorem of_call {s : ByteArray} (hK : hasF K 62 = false) (hK' : hasF K 17 = false) (hn : TrimAt (natsOf s) n) (hk : 1000 ≤ k) (hs : s.data.toList.length ≤ 1000) (h0 : 0 < s.data.toList.length) :
    ainv E (runK E Z K (k + 2)) 17 [.string s] M = some (.slice (some ⟨M.length, 0, none⟩) n s.data.toList.length, M ++ [.row false 3 (cellsN (natsOf s))]) := by
  have hnl : (natsOf s).length = s.data.toList.length := by unfold natsOf; rw [List.length_map]
  obtain ⟨b, m', hr, hb, hle⟩ := of_body (self := runK E Z K (k + 1)) (nf := k + 2) (m := (M.take E.G).map onlyTab) (s := s) (n := n) hs h0 (by omega) (fun M' b' hM' => by
    have := trim_call (Z := Z) hK hn hk (by omega) (by omega) hM'
    rw [hnl] at this
    exact this)
  unfold ainv
  rw [if_pos (show [Value.string s].all lit2 = true from rfl), show E.fast 17 = none from by kernel_rfl]
  simp only [runK_other hK', hr]
  exact acoll_new hle hb (cellsN_lit _)

/-- The document's number of eight words. -/
theorem byS_list (w : Nat → Nat) : (byS w).data.toList.length = 64 := by
  unfold byS
  rw [bytesOfL_list, List.length_map, byL_length]
theorem byW_lt (w : Nat → Nat) (t : Nat) : byW w t < 256 := Nat.mod_lt _ (by omega)
theorem natsOf_byS (w : Nat → Nat) : natsOf (byS w) = (List.range 64).map (byW w) := by
  unfold natsOf byS byL
  rw [bytesOfL_list, List.map_map, List.map_map]
  apply List.map_congr_left
  intro t _
  show (UInt8.ofNat (((byW w t : Nat) : Int)).toNat).toNat = byW w t
  rw [Int.toNat_natCast, UInt8.toNat_ofNat']
  exact Nat.mod_eq_of_lt (byW_lt w t)

theorem num_call (hK : hasF K 62 = false) (hK' : hasF K 17 = false) (hK2 : hasF K 10 = false) (hn : TrimAt (natsOf (byS w)) n) (hk : 1000 ≤ k) :
    ainv E (runK E Z K (k + 3)) 10 [wide w] M = some (.slice (some ⟨M.length, 0, none⟩) n 64, M ++ [.row false 3 (cellsN (natsOf (byS w)))]) := by
  obtain ⟨m', hr, hle⟩ := num_body (self := runK E Z K (k + 2)) (nf := k + 3) (m := (M.take E.G).map onlyTab) (w := w) (k := n) (l := cellsN (natsOf (byS w))) (by omega) (fun M' => by
    have := of_call (M := M') (Z := Z) (s := byS w) hK hK' hn hk (by rw [byS_list]; omega) (by rw [byS_list]; omega)
    rw [byS_list] at this
    exact this)
  unfold ainv
  rw [if_pos (by simp only [List.all_cons, List.all_nil, wide_lit, Bool.and_self]), show E.fast 10 = none from by kernel_rfl]
  simp only [runK_other hK2, hr]
  exact acoll_new hle (by simp) (cellsN_lit _)

theorem rbit_call {c : Nat} {iv : Int} {ro : Bool} (hK : hasF K 67 = false) (hM : M[b]? = some (.row ro 3 (cellsN l))) (hn : n ≤ l.length) (hl : l.length ≤ 1000) (hx : ∀ x, x ∈ l → x < 256) (hi : iv < 9223372036854775808) (hk : 1000 ≤ k) :
    ainv E (runK E Z K (k + 1)) 67 [.slice (some ⟨b, 0, none⟩) n c, .int .i64 iv] M = some (.int .i64 ((rbit l n iv : Nat) : Int), M) := by
  have hs : (M.map sealed)[b]? = some (.row true 3 (cellsN l)) := by rw [List.getElem?_map, hM]; rfl
  exact ainv_look rfl (by kernel_rfl) ((runK_other hK).trans (rbit_body (self := runK E Z K k) (nf := k + 1) hs hn hl hx hi (by omega))) rfl

theorem wide_args (w : Nat → Nat) (v : Int) : ([wide w, Value.int .i64 v] : List Value).all lit2 = true := by
  show (lit2 (wide w) && (lit2 (.int .i64 v) && true)) = true
  rw [wide_lit]
  rfl

/-- The document's bit is the number's. -/
theorem rbit_is (hw : ∀ j, w j < 18446744073709551616) (hn : TrimAt (natsOf (byS w)) n) (v : Int) : rbit (natsOf (byS w)) n v = bitI w v := by
  have hl : (natsOf (byS w)).length = 64 := by rw [natsOf_byS]; simp
  obtain ⟨h1, h2, _⟩ := hn
  have hg : ∀ t, t < 64 → (natsOf (byS w)).getD t 0 = byW w t := by
    intro t ht
    rw [natsOf_byS, List.getD_eq_getElem?_getD, List.getElem?_map, List.getElem?_range ht]
    rfl
  have hbit : ∀ i, i < 512 → byW w (i / 8) / 2 ^ (i % 8) % 2 = (bitW w i).toNat := by
    intro i hi
    unfold byW bitW
    rw [show (256 : Nat) = 2 ^ 8 from rfl]
    have e : (w (i / 8 / 8) / 2 ^ (8 * (i / 8 % 8)) % 2 ^ 8).testBit (i % 8) = (w (i / 64)).testBit (i % 64) := by
      rw [Nat.testBit_mod_two_pow, decide_eq_true (show i % 8 < 8 by omega), Bool.true_and, Nat.testBit_div_two_pow, show i / 8 / 8 = i / 64 by omega, show i % 8 + 8 * (i / 8 % 8) = i % 64 by omega]
    rw [← e, Nat.testBit_eq_decide_div_mod_eq]
    rcases Nat.mod_two_eq_zero_or_one (w (i / 8 / 8) / 2 ^ (8 * (i / 8 % 8)) % 2 ^ 8 / 2 ^ (i % 8)) with h | h <;> simp [h]
  unfold rbit bitI
  by_cases h0 : 0 ≤ v
  · obtain ⟨i, rfl⟩ := Int.eq_ofNat_of_zero_le h0
    by_cases h3 : i < 512
    · rw [if_pos (show (0 : Int) ≤ ((i : Nat) : Int) ∧ ((i : Nat) : Int) < 512 by omega), Int.toNat_natCast]
      by_cases h4 : i / 8 < n
      · rw [if_pos (by omega), hg _ (by omega), hbit i h3]
      · rw [if_neg (by omega)]
        have hz := h2 (i / 8) (by omega) (by omega)
        have : (natsOf (byS w)).getD (i / 8) 0 = 0 := by rw [List.getD_eq_getElem?_getD, hz]; rfl
        rw [hg _ (by omega)] at this
        rw [← hbit i h3, this]
        simp
    · rw [if_neg (by omega), if_neg (by omega)]
  · rw [if_neg (by omega), if_neg (by omega)]

/-- What a shift makes of a bit. -/
theorem shift_bit (hw : ∀ j, w j < 18446744073709551616) {v i : Int} (hi : 0 ≤ i) (hi' : i < 512) : bitI (shW w v) i = bitI w (i - v) := by
  obtain ⟨t, rfl⟩ := Int.eq_ofNat_of_zero_le hi
  have ht : t < 512 := by omega
  unfold shW
  by_cases h1 : 512 ≤ v ∨ v ≤ -512
  · rw [if_pos h1]
    unfold bitI bitW
    rw [if_pos (by omega), if_neg (by omega), Nat.zero_testBit]
    rfl
  · rw [if_neg h1]
    by_cases h2 : v < 0
    · rw [if_pos h2]
      obtain ⟨u, hu⟩ := Int.eq_ofNat_of_zero_le (show 0 ≤ -v by omega)
      have hv : v = -((u : Nat) : Int) := by omega
      subst hv
      rw [show (- -((u : Nat) : Int)).toNat = u by omega]
      unfold bitI
      rw [if_pos (by omega), Int.toNat_natCast, dn_bit hw (by omega) ht]
      by_cases h3 : t + u < 512
      · rw [decide_eq_true h3, Bool.true_and, if_pos (by omega)]
        rw [show (((t : Nat) : Int) - -((u : Nat) : Int)).toNat = t + u by omega]
      · rw [decide_eq_false h3, Bool.false_and, if_neg (by omega)]
        rfl
    · rw [if_neg h2]
      obtain ⟨u, rfl⟩ := Int.eq_ofNat_of_zero_le (show 0 ≤ v by omega)
      rw [Int.toNat_natCast]
      unfold bitI
      rw [if_pos (by omega), Int.toNat_natCast, up_bit hw (by omega) ht]
      by_cases h3 : u ≤ t
      · rw [decide_eq_true h3, Bool.true_and, if_pos (by omega)]
        rw [show (((t : Nat) : Int) - ((u : Nat) : Int)).toNat = t - u by omega]
      · rw [decide_eq_false h3, Bool.false_and, if_neg (by omega)]
        rfl

theorem shift_zero (hw : ∀ j, w j < 18446744073709551616) : shW w 0 = w := by
  funext a
  unfold shW
  rw [if_neg (by omega), if_neg (by omega)]
  unfold upW
  rw [show (0 : Int).toNat / 64 = 0 from rfl, show (0 : Int).toNat % 64 = 0 from rfl, if_neg (by omega), Nat.pow_zero, Nat.mul_one, Nat.sub_zero, Nat.mod_eq_of_lt (hw a)]
  by_cases h : 0 < a
  · rw [if_pos h, Nat.sub_zero, Nat.div_eq_of_lt (show w (a - 1) < 2 ^ 64 from hw _), Nat.or_zero]
  · rw [if_neg h]

theorem shift_lt (hw : ∀ j, w j < 18446744073709551616) (v : Int) : ∀ j, shW w v j < 18446744073709551616 := by
  intro j
  unfold shW
  split
  · show 0 < 18446744073709551616
    omega
  · split
    · exact dnW_lt hw _ _ _
    · exact upW_lt hw _ _ _
end
end Go.Am.Seat

/-
  The abstract machine: panics (own work; nothing of a dump).
-/
set_option linter.unusedSimpArgs false
set_option linter.unusedVariables false
namespace Go.Am
noncomputable section

/-- How a call ends that panics. -/
def EndsP (P : Program) (ρ : Ren) (m : Mem) (w : World) (pv : Value) (m1 : Mem) (e : Ending) (w1 : World) : Prop :=
  ∃ pv' ρ1, e = .panicked [{ v := pv', recovered := false }] ∧ VR ρ1 pv pv' ∧ MR P ρ1 m1 w1 ∧ Ext ρ m w ρ1 m1 w1

/-- What tells of calls that panic is sound. -/
def PanOK (P : Program) (sp : Self) : Prop :=
  ∀ f args m v m1, sp f args m = some (v, m1) → ∀ ρ w (args' : Array Value), MR P ρ m w → TR ρ args args' → Calls P f args' w (EndsP P ρ m w v m1)

/-- A call that panics. -/
def ainvP (E : Env) (sp : Self) (g : FuncId) (args : List Value) (m : Mem) : Option (Value × Mem) :=
  if args.all lit2 then match sp g args ((m.take E.G).map onlyTab) with
    | some (v, m1) => acoll m ((m.take E.G).map onlyTab).length v m1
    | none => none
  else if E.wr g then sp g args m
  else match sp g args (m.map sealed) with
    | some (v, m1) => acoll m (m.map sealed).length v m1
    | none => none

theorem ainvP_sound {E : Env} {sp : Self} (hG : E.P.globals.size ≤ E.G) (hs : PanOK E.P sp) : PanOK E.P (ainvP E sp) := by
  intro f args m v m1 h ρ w args' hm ht
  unfold ainvP at h
  split at h
  · rename_i hl
    split at h
    · rename_i v0 m0 h0
      refine (hs _ _ _ _ _ h0 _ w args' (mr_onlyTab hm hG) (tr_lit ht hl)).mono ?_
      rintro e w1 ⟨v', ρ1, rfl, hv, hm1, hx⟩
      obtain ⟨ρ2, h1, h2, h3⟩ := acoll_sound hm rfl (fun k x hk => by (split at hk; exact hk; cases hk)) (fun k e cs => onlyTab_ro k e cs) hm1 hx hv h
      exact ⟨v', ρ2, rfl, h1, h2, h3⟩
    · cases h
  · split at h
    · exact hs _ _ _ _ _ h ρ w args' hm ht
    · split at h
      · rename_i v0 m0 h0
        refine (hs _ _ _ _ _ h0 ρ w args' (mr_sealed hm) ht).mono ?_
        rintro e w1 ⟨v', ρ1, rfl, hv, hm1, hx⟩
        obtain ⟨ρ2, h1, h2, h3⟩ := acoll_sound hm rfl (fun k x hk => hk) (fun k e cs => sealed_ro k e cs) hm1 hx hv h
        exact ⟨v', ρ2, rfl, h1, h2, h3⟩
      · cases h

/-- An operation that panics. -/
def apan (E : Env) (sp : Self) (T : List Value) (m : Mem) (o : Oper) : Option (Value × Mem) :=
  match o.op with
  | .panic x => match ev T x with
    | .iface t v => some (.iface t v, m)
    | _ => none
  | .call c => match c.callee with
    | .value f => match ev T f with
      | .func (.func g) a b => match callableB E.P g with
        | true => ainvP E sp g (a.toList ++ c.args.toList.map (ev T) ++ b.toList) m
        | false => none
      | _ => none
    | _ => none
  | _ => none

theorem vr_iface_inv {ρ : Ren} {t : TypeId} {v v' : Value} (h : VR ρ (.iface t v) v') : v' = .iface t v := by
  cases h with
  | lit _ => rfl

theorem apan_wp {E : Env} {sp : Self} (hs : PanOK E.P (ainvP E sp)) (hnum : noNum E.P) {ρ : Ren} {m m1 : Mem} {w : World} {T : List Value} {a : Act} {o : Oper} {pv : Value}
    (hm : MR E.P ρ m w) (hev : ∀ x, x ∈ o.op.operands.toList → VR ρ (ev T x) (a.eval x)) (h : apan E sp T m o = some (pv, m1)) {K : Act → World → Prop} {Q : Exit → Act → World → Prop}
    (hQ : ∀ pv' w1 ρ1, VR ρ1 pv pv' → MR E.P ρ1 m1 w1 → Ext ρ m w ρ1 m1 w1 → Q (.panic [{ v := pv', recovered := false }]) a w1) : o.wp E.P a w K Q := by
  unfold apan at h
  split at h
  · rename_i x ho
    split at h
    · rename_i t v hx
      cases h
      have h0 := hev x (by simp [ho, Op.operands])
      rw [hx] at h0
      have e0 := vr_iface_inv h0
      unfold Oper.wp
      have hrun : (execOp a.eval o).run E.P w = .halt (.panic (.iface t v)) w := by
        simp only [execOp, ho, e0, Instr.panic]
        rfl
      rw [hrun, Oper.upon_panic]
      rw [e0] at h0
      exact hQ _ w ρ h0 hm (Ext.refl' _ hm.dom)
    · cases h
  · rename_i c ho
    split at h
    · rename_i f hc
      split at h
      · rename_i g fa fb hf
        split at h
        · rename_i hcall
          have hfv := hev f (by simp [ho, Op.operands, Call.operands, hc])
          rw [hf] at hfv
          obtain ⟨a', b', hfe, hn, hi, hk, hj⟩ := vr_func_inv (a := fa.toList) (b := fb.toList) hfv
          have htr : TR ρ (c.args.toList.map (ev T)) (c.args.map a.eval) := by
            obtain ⟨h1, h2⟩ := vr_map (T := T) (a := a) (ρ := ρ) (l := c.args) fun x hx => hev x (by simp [ho, Op.operands, Call.operands]; right; simpa using hx)
            exact ⟨by simp, fun i x y hx hy => h2 i x y hx (by simpa using hy)⟩
          have hcf : (execOp a.eval o).run E.P w = (callFunc g ((⟨a'⟩ : Array Value) ++ c.args.map a.eval ++ (⟨b'⟩ : Array Value))).run E.P w := by
            simp [execOp, ho, resolve, hc, hfe, Deferred.ofValue, invoke]
          unfold callableB at hcall
          split at hcall
          · rename_i fn hfn
            obtain ⟨code, hcode⟩ := Option.isSome_iff_exists.1 hcall
            have hrun : (execOp a.eval o).run E.P w = .ok (.enter g ((⟨a'⟩ : Array Value) ++ c.args.map a.eval ++ (⟨b'⟩ : Array Value))) w := by
              have hn := hnum g fn hfn
              simp only [beq_eq_false_iff_ne, ne_eq] at hn
              rw [hcf]
              simp [callFunc, hfn, hn, hcode]
            unfold Oper.wp
            rw [hrun, Oper.upon_enter]
            refine (hs _ _ _ _ _ h ρ w _ hm (tr_caps hn hi hk hj htr)).mono ?_
            rintro e w1 ⟨v', ρ1, rfl, hv, hm1, hx⟩
            exact hQ v' w1 ρ1 hv hm1 hx
          · cases hcall
        · cases h
      · cases h
    · cases h
  · cases h

/-- Operations one behind the other, of which one panics. -/
def aopsP (E : Env) (self sp : Self) (ops : Array Oper) : List Oper → List Value → Mem → Option (Value × List Value × Mem)
  | [], _, _ => none
  | o :: l, T, m => match agd ops T o with
    | some true => if okOp E.P o.op then match astep E self T m o with
        | some (v, m1) => aopsP E self sp ops l (aput T o.dst v) m1
        | none => match apan E sp T m o with
          | some (pv, m1) => some (pv, T, m1)
          | none => none
      else none
    | some false => aopsP E self sp ops l (aput T o.dst undef) m
    | none => none

/-- Behind a panic. -/
def PPost (D : List Deferred) (P : Program) (ρ : Ren) (m : Mem) (w : World) (pv : Value) (T1 : List Value) (m1 : Mem) (e : Exit) (a1 : Act) (w1 : World) : Prop :=
  ∃ pv' ρ1, e = .panic [{ v := pv', recovered := false }] ∧ a1.defers = D ∧ TR ρ1 T1 a1.tmps ∧ VR ρ1 pv pv' ∧ MR P ρ1 m1 w1 ∧ Ext ρ m w ρ1 m1 w1

theorem PPost.after {D : List Deferred} {P : Program} {ρ ρ1 : Ren} {m m1 m2 : Mem} {w w1 w2 : World} {pv : Value} {T2 : List Value} {e : Exit} {a2 : Act} (hx : Ext ρ m w ρ1 m1 w1) (h : PPost D P ρ1 m1 w1 pv T2 m2 e a2 w2) : PPost D P ρ m w pv T2 m2 e a2 w2 := by
  obtain ⟨pv', ρ2, h1, h2, h3, h4, h5, h6⟩ := h
  exact ⟨pv', ρ2, h1, h2, h3, h4, h5, hx.trans h6⟩

theorem aopsP_sound {E : Env} {self sp : Self} (hs : CallOK E.P (ainv E self)) (hp : PanOK E.P (ainvP E sp)) (hnum : noNum E.P) (hx9 : XOK E) {ops : Array Oper} :
    ∀ (l : List Oper) (T : List Value) (m : Mem) (pv : Value) (T1 : List Value) (m1 : Mem), aopsP E self sp ops l T m = some (pv, T1, m1) → ∀ (D : List Deferred) (ρ : Ren) (w : World) (a : Act), a.defers = D → MR E.P ρ m w → TR ρ T a.tmps →
      ∀ (Q : Exit → Act → World → Prop), (∀ e a1 w1, PPost D E.P ρ m w pv T1 m1 e a1 w1 → Q e a1 w1) → wpList E.P ops Q l a w
  | [], T, m, pv, T1, m1, h, D, ρ, w, a, hd, hm, ht, Q, hQ => by simp [aopsP] at h
  | o :: l, T, m, pv, T1, m1, h, D, ρ, w, a, hd, hm, ht, Q, hQ => by
    unfold aopsP at h
    split at h
    · rename_i hg
      split at h
      · rename_i hok
        simp only [wpList, agd_sound ht.size (fun _ _ _ d _ _ _ x y => ht.at_ d x y) hg, if_true]
        left
        split at h
        · rename_i v m2 hst
          refine astep_wp hs hnum hx9 hm (ev_all hm ht hok) hok hst fun v' w1 ρ1 hv hm1 hx => ?_
          exact aopsP_sound hs hp hnum hx9 l _ _ _ _ _ h D ρ1 w1 _ (by rw [put_defers]; exact hd) hm1 (tr_put (ht.mono hx.le) o.dst hv) Q fun e a2 w2 h2 => hQ e a2 w2 (h2.after hx)
        · split at h
          · rename_i pv0 m2 hpa
            cases h
            refine apan_wp hp hnum hm (ev_all hm ht hok) hpa fun pv' w1 ρ1 hv hm1 hx => hQ _ _ _ ⟨pv', ρ1, rfl, hd, ht.mono hx.le, hv, hm1, hx⟩
          · cases h
      · cases h
    · rename_i hg
      simp only [wpList, agd_sound ht.size (fun _ _ _ d _ _ _ x y => ht.at_ d x y) hg, Bool.false_eq_true, if_false]
      exact aopsP_sound hs hp hnum hx9 l _ _ _ _ _ h D ρ w _ (by rw [put_defers]; exact hd) hm (tr_put ht o.dst (vr_undef ρ)) Q hQ
    · cases h

abbrev PRes := Option (Value × List Value × Mem)

def aloopP (body : List Value → Mem → CRes) (bodyP : List Value → Mem → PRes) : Nat → List Value → Mem → PRes
  | 0, _, _ => none
  | n + 1, T, m => match body T m with
    | some (.normal, T1, m1) => aloopP body bodyP n T1 m1
    | some _ => none
    | none => bodyP T m

/-- Code that panics. -/
def acodeP (E : Env) (self sp : Self) (n : Nat) : Code → List Value → Mem → PRes
  | .region _ ops false, T, m => aopsP E self sp ops ops.toList T m
  | .seq a b, T, m => match acode E self n a T m with
    | some (.normal, T1, m1) => acodeP E self sp n b T1 m1
    | some _ => none
    | none => acodeP E self sp n a T m
  | .cond c a b, T, m => if okOperand E.P c then match ev T c with
      | .bool true => acodeP E self sp n a T m
      | .bool false => acodeP E self sp n b T m
      | _ => none
    else none
  | .block _ c, T, m => acodeP E self sp n c T m
  | .loop c, T, m => aloopP (acode E self n c) (acodeP E self sp n c) n T m
  | .scope c, T, m => acodeP E self sp n c T m
  | _, _, _ => none

def BodyPOK (P : Program) (c : Code) (body : List Value → Mem → PRes) : Prop :=
  ∀ T m pv T1 m1, body T m = some (pv, T1, m1) → ∀ (D : List Deferred) (ρ : Ren) (w : World) (a : Act), a.defers = D → MR P ρ m w → TR ρ T a.tmps → c.wp P (PPost D P ρ m w pv T1 m1) a w

theorem aloopP_sound {P : Program} {c : Code} {body : List Value → Mem → CRes} {bodyP : List Value → Mem → PRes} (hb : BodyOK P c body) (hp : BodyPOK P c bodyP) :
    ∀ (n : Nat) T m pv T1 m1, aloopP body bodyP n T m = some (pv, T1, m1) → ∀ (D : List Deferred) (ρ : Ren) (w : World) (a : Act), a.defers = D → MR P ρ m w → TR ρ T a.tmps → Code.rounds P c (PPost D P ρ m w pv T1 m1) n a w
  | 0, T, m, pv, T1, m1, h => by simp [aloopP] at h
  | n + 1, T, m, pv, T1, m1, h => by
    intro D ρ w a hd hm ht
    unfold aloopP at h
    rw [rounds_succ]
    split at h
    · rename_i T2 m2 h2
      refine wp_mono (hb _ _ _ _ _ h2 D ρ w a hd hm ht) ?_
      rintro e' a1 w1 ⟨rfl, hd1, ρ1, ht1, hm1, hx1⟩
      show Code.rounds P c _ n a1 w1
      exact rounds_mono (aloopP_sound hb hp n _ _ _ _ _ h D ρ1 w1 a1 hd1 hm1 ht1) fun e a2 w2 h3 => h3.after hx1
    · cases h
    · refine wp_mono (hp _ _ _ _ _ h D ρ w a hd hm ht) ?_
      rintro e' a1 w1 h3
      obtain ⟨pv', ρ1, rfl, h4⟩ := h3
      exact ⟨pv', ρ1, rfl, h4⟩

theorem acodeP_sound {E : Env} {self sp : Self} (hs : CallOK E.P (ainv E self)) (hp : PanOK E.P (ainvP E sp)) (hE : EnvOK E) (n : Nat) : ∀ c : Code, codeOk E.P E.wr E.sr E.mkr c = true → BodyPOK E.P c (acodeP E self sp n c) := by
  intro c
  induction c with
  | region id ops draw =>
    intro _ T m pv T1 m1 h D ρ w a hd hm ht
    cases draw with
    | true => simp [acodeP] at h
    | false =>
      simp only [acodeP] at h
      exact wp_region_list (aopsP_sound hs hp hE.num hE.ext _ _ _ _ _ _ h D ρ w a hd hm ht _ fun e a1 w1 h1 => h1)
  | seq x y ihx ihy =>
    intro hco T m pv T1 m1 h D ρ w a hd hm ht
    simp only [codeOk, Bool.and_eq_true] at hco
    simp only [acodeP] at h
    split at h
    · rename_i T2 m2 h2
      refine wp_seq (wp_mono (acode_sound hs hE n x hco.1 _ _ _ _ _ h2 D ρ w a hd hm ht) ?_)
      rintro e' a1 w1 ⟨rfl, hd1, ρ1, ht1, hm1, hx1⟩
      show y.wp E.P _ a1 w1
      exact wp_mono (ihy hco.2 _ _ _ _ _ h D ρ1 w1 a1 hd1 hm1 ht1) fun e a2 w2 h3 => h3.after hx1
    · cases h
    · refine wp_seq (wp_mono (ihx hco.1 _ _ _ _ _ h D ρ w a hd hm ht) ?_)
      rintro e' a1 w1 ⟨pv', ρ1, rfl, h3⟩
      exact ⟨pv', ρ1, rfl, h3⟩
  | cond c x y ihx ihy =>
    intro hco T m pv T1 m1 h D ρ w a hd hm ht
    simp only [codeOk, Bool.and_eq_true] at hco
    simp only [acodeP] at h
    split at h
    · rename_i hok
      have hv := ev_vr hm ht c hok
      split at h
      · rename_i hc
        rw [hc] at hv
        exact wp_cond (t := true) (hv.eq_of_lit2 rfl) (ihx hco.1 _ _ _ _ _ h D ρ w a hd hm ht)
      · rename_i hc
        rw [hc] at hv
        exact wp_cond (t := false) (hv.eq_of_lit2 rfl) (ihy hco.2 _ _ _ _ _ h D ρ w a hd hm ht)
      · cases h
    · cases h
  | block id x ihx =>
    intro hco T m pv T1 m1 h D ρ w a hd hm ht
    simp only [acodeP] at h
    refine wp_block (wp_mono (ihx hco _ _ _ _ _ h D ρ w a hd hm ht) ?_)
    rintro e' a1 w1 ⟨pv', ρ1, rfl, h3⟩
    exact ⟨pv', ρ1, rfl, h3⟩
  | loop x ihx =>
    intro hco T m pv T1 m1 h D ρ w a hd hm ht
    simp only [acodeP] at h
    exact wp_loop_rounds n (aloopP_sound (acode_sound hs hE n x hco) (ihx hco) n _ _ _ _ _ h D ρ w a hd hm ht)
  | scope x ihx =>
    intro hco T m pv T1 m1 h D ρ w a hd hm ht
    simp only [acodeP] at h
    refine wp_scope_straight (wp_mono (ihx hco _ _ _ _ _ h D ρ w a hd hm ht) ?_)
    rintro e' a1 w1 ⟨pv', ρ1, rfl, h3⟩
    exact ⟨pv', ρ1, rfl, h3⟩
  | skip => intro _ T m pv T1 m1 h; simp [acodeP] at h
  | label l => intro _ T m pv T1 m1 h; simp [acodeP] at h
  | exit id => intro _ T m pv T1 m1 h; simp [acodeP] at h
  | ret => intro _ T m pv T1 m1 h; simp [acodeP] at h
  | rangeFunc f ps x y ihx ihy => intro _ T m pv T1 m1 h; simp [acodeP] at h
  | goto l => intro _ T m pv T1 m1 h; simp [acodeP] at h
  | refuse s => intro _ T m pv T1 m1 h; simp [acodeP] at h

/-- A function's call that panics, where nothing is deferred. -/
def abodyP (E : Env) (self sp : Self) (n : Nat) (f : FuncId) (args : List Value) (m : Mem) : Option (Value × Mem) :=
  if E.good f then match E.P.funcs[f]? with
  | some fn => match fn.body with
    | some c => match acodeP E self sp n c (args ++ List.replicate (fn.ntmps - args.length) undef) m with
      | some (pv, _, m1) => some (pv, m1)
      | none => none
    | none => none
  | none => none
  else none

theorem tr_start {ρ : Ren} {args : List Value} {args' : Array Value} (ht : TR ρ args args') (n : Nat) : TR ρ (args ++ List.replicate (n - args.length) undef) (args' ++ Array.replicate (n - args'.size) undef) := by
  refine ⟨by simp [ht.size], fun i x y hx hy => ?_⟩
  by_cases hi : i < args.length
  · rw [List.getElem?_append_left hi] at hx
    rw [Array.getElem?_append_left (by rw [← ht.size]; exact hi)] at hy
    exact ht.at_ i x y hx hy
  · rw [List.getElem?_append_right (by omega)] at hx
    rw [Array.getElem?_append_right (by rw [← ht.size]; omega)] at hy
    rw [List.getElem?_replicate] at hx
    rw [Array.getElem?_replicate] at hy
    split at hx
    · split at hy
      · cases hx; cases hy; exact vr_undef ρ
      · cases hy
    · cases hx

theorem abodyP_sound {E : Env} {self sp : Self} (hs : CallOK E.P (ainv E self)) (hp : PanOK E.P (ainvP E sp)) (hE : EnvOK E) (n : Nat) : PanOK E.P (abodyP E self sp n) := by
  intro f args m pv m1 h ρ w args' hm ht
  unfold abodyP at h
  split at h
  case isFalse => cases h
  rename_i hgd
  split at h
  · rename_i fn hfn
    split at h
    · rename_i c hc
      split at h
      · rename_i pv0 T1 m2 h2
        cases h
        refine calls_of_wp hfn hc ?_
        refine wp_mono (acodeP_sound hs hp hE n c (hE.good f fn c hgd hfn hc) _ _ _ _ _ h2 [] ρ w _ rfl hm (tr_start ht fn.ntmps)) ?_
        rintro e' a1 w1 ⟨pv', ρ1, rfl, hd1, ht1, hv, hm1, hx1⟩
        exact ⟨hd1, pv', ρ1, rfl, hv, hm1, hx1⟩
      · cases h
    · cases h
  · cases h

end
end Go.Am

/-
  The abstract machine: deferred calls that recover (own work; nothing of a dump).
-/
set_option linter.unusedSimpArgs false
set_option linter.unusedVariables false
namespace Go.Am
noncomputable section

/-- How a frame goes while its deferred call runs: it returns; it panics; it did, and that was recovered. -/
inductive PS where
  | none
  | live (pv : Value)
  | done

def PS.ok (ρ : Ren) : PS → FrameMode → Prop
  | .none, u => u = .returning
  | .live pv, u => ∃ pv', u = .panicking [{ v := pv', recovered := false }] ∧ VR ρ pv pv'
  | .done, u => ∃ pv', u = .panicking [{ v := pv', recovered := true }]

theorem PS.ok_mono {ρ ρ' : Ren} (hl : ρ.le ρ') {s : PS} {u : FrameMode} (h : s.ok ρ u) : s.ok ρ' u := by
  cases s with
  | none => exact h
  | live pv => obtain ⟨pv', h1, h2⟩ := h; exact ⟨pv', h1, h2.mono hl⟩
  | done => exact h

def isRec (o : Oper) : Bool := match o.op with
  | .call c => match c.callee with
    | .builtin .recover => true
    | _ => false
  | _ => false

/-- Operations one behind the other in a deferred call. -/
def aopsS (E : Env) (self : Self) (ops : Array Oper) : List Oper → List Value → Mem → PS → Option (List Value × Mem × PS)
  | [], T, m, s => some (T, m, s)
  | o :: l, T, m, s => match agd ops T o with
    | some true => if okOp E.P o.op then match isRec o with
        | true => match s with
          | .live pv => aopsS E self ops l (aput T o.dst pv) m .done
          | .none => aopsS E self ops l (aput T o.dst .nilIface) m .none
          | .done => aopsS E self ops l (aput T o.dst .nilIface) m .done
        | false => match astep E self T m o with
          | some (v, m1) => aopsS E self ops l (aput T o.dst v) m1 s
          | none => none
      else none
    | some false => aopsS E self ops l (aput T o.dst undef) m s
    | none => none

def SPost (D : List Deferred) (c₀ : Frame) (cs : List Frame) (P : Program) (ρ : Ren) (m : Mem) (w : World) (T1 : List Value) (m1 : Mem) (s1 : PS) (a1 : Act) (cs1 : List Frame) (w1 : World) : Prop :=
  a1.defers = D ∧ ∃ ρ1 u1, cs1 = { c₀ with mode := u1 } :: cs ∧ s1.ok ρ1 u1 ∧ TR ρ1 T1 a1.tmps ∧ MR P ρ1 m1 w1 ∧ Ext ρ m w ρ1 m1 w1

theorem SPost.after {D : List Deferred} {c₀ : Frame} {cs : List Frame} {P : Program} {ρ ρ1 : Ren} {m m1 m2 : Mem} {w w1 w2 : World} {T2 : List Value} {s2 : PS} {a2 : Act} {cs2 : List Frame} (hx : Ext ρ m w ρ1 m1 w1) (h : SPost D c₀ cs P ρ1 m1 w1 T2 m2 s2 a2 cs2 w2) : SPost D c₀ cs P ρ m w T2 m2 s2 a2 cs2 w2 := by
  obtain ⟨h1, ρ2, u2, h2, h3, h4, h5, h6⟩ := h
  exact ⟨h1, ρ2, u2, h2, h3, h4, h5, hx.trans h6⟩

theorem isRec_run {P : Program} {o : Oper} (h : isRec o = true) (a : Act) (w : World) : (execOp a.eval o).run P w = .ok .recover w := by
  unfold isRec at h
  split at h
  · rename_i c ho
    split at h
    · rename_i hc
      simp [execOp, ho, resolve, hc, invoke, builtin]
    · cases h
  · cases h

theorem aopsS_sound {E : Env} {self : Self} (hs : CallOK E.P (ainv E self)) (hnum : noNum E.P) (hx9 : XOK E) {ops : Array Oper} {c₀ : Frame} {cs : List Frame} :
    ∀ (l : List Oper) (k : Nat), (∀ j, l[j]? = ops[k + j]?) → ∀ (T : List Value) (m : Mem) (s : PS) (T1 : List Value) (m1 : Mem) (s1 : PS), aopsS E self ops l T m s = some (T1, m1, s1) → ∀ (D : List Deferred) (ρ : Ren) (u : FrameMode) (w : World) (a : Act), a.defers = D → s.ok ρ u → MR E.P ρ m w → TR ρ T a.tmps →
      ∀ (Q : Exit → Act → List Frame → World → Prop), (∀ a1 cs1 w1, SPost D c₀ cs E.P ρ m w T1 m1 s1 a1 cs1 w1 → Q .normal a1 cs1 w1) → wpOpsS E.P ops Q (List.range' k l.length) a ({ c₀ with mode := u } :: cs) w
  | [], k, _, T, m, s, T1, m1, s1, h, D, ρ, u, w, a, hd, hso, hm, ht, Q, hQ => by
    simp only [aopsS, Option.some.injEq, Prod.mk.injEq] at h
    obtain ⟨rfl, rfl, rfl⟩ := h
    exact hQ a _ w ⟨hd, ρ, u, rfl, hso, ht, hm, Ext.refl' _ hm.dom⟩
  | o :: l, k, hl, T, m, s, T1, m1, s1, h, D, ρ, u, w, a, hd, hso, hm, ht, Q, hQ => by
    have h0 : ops[k]? = some o := by simpa using (hl 0).symm
    have hl' : ∀ j, l[j]? = ops[k + 1 + j]? := fun j => by have := hl (j + 1); simpa [Nat.add_assoc, Nat.add_comm 1 j] using this
    simp only [List.length_cons, List.range'_succ, wpOpsS, h0]
    unfold aopsS at h
    split at h
    · rename_i hg
      rw [if_pos (agd_sound ht.size (fun _ _ _ d _ _ _ x y => ht.at_ d x y) hg)]
      split at h
      · rename_i hok
        split at h
        · rename_i hrec
          rw [isRec_run hrec a w]
          simp only
          split at h
          · rename_i pv
            obtain ⟨pv', rfl, hv⟩ := hso
            simp only [recoverD]
            exact aopsS_sound hs hnum hx9 l (k + 1) hl' _ _ _ _ _ _ h D ρ (.panicking [{ v := pv', recovered := true }]) w _ (by rw [put_defers]; exact hd) ⟨pv', rfl⟩ hm (tr_put ht o.dst hv) Q hQ
          · obtain rfl : u = .returning := hso
            simp only [recoverD]
            exact aopsS_sound hs hnum hx9 l (k + 1) hl' _ _ _ _ _ _ h D ρ .returning w _ (by rw [put_defers]; exact hd) rfl hm (tr_put ht o.dst (.lit rfl)) Q hQ
          · obtain ⟨pv', rfl⟩ := hso
            simp only [recoverD]
            exact aopsS_sound hs hnum hx9 l (k + 1) hl' _ _ _ _ _ _ h D ρ (.panicking [{ v := pv', recovered := true }]) w _ (by rw [put_defers]; exact hd) ⟨pv', rfl⟩ hm (tr_put ht o.dst (.lit rfl)) Q hQ
        · split at h
          · rename_i v m2 hst
            have hw : o.wp E.P a w (fun a' w' => wpOpsS E.P ops Q (List.range' (k + 1) l.length) a' ({ c₀ with mode := u } :: cs) w') (fun e a' w' => Q e a' ({ c₀ with mode := u } :: cs) w') := by
              refine astep_wp hs hnum hx9 hm (ev_all hm ht hok) hok hst fun v' w1 ρ1 hv hm1 hx => ?_
              exact aopsS_sound hs hnum hx9 l (k + 1) hl' _ _ _ _ _ _ h D ρ1 u w1 _ (by rw [put_defers]; exact hd) (PS.ok_mono hx.le hso) hm1 (tr_put (ht.mono hx.le) o.dst hv) Q fun a2 cs2 w2 h2 => hQ a2 cs2 w2 (h2.after hx)
            unfold Oper.wp at hw
            split
            · rename_i w' heq
              rw [heq] at hw
              exact hw.elim
            · exact hw
          · cases h
      · cases h
    · rename_i hg
      rw [if_neg (by rw [agd_sound ht.size (fun _ _ _ d _ _ _ x y => ht.at_ d x y) hg]; simp)]
      exact aopsS_sound hs hnum hx9 l (k + 1) hl' _ _ _ _ _ _ h D ρ u w _ (by rw [put_defers]; exact hd) hso hm (tr_put ht o.dst (vr_undef ρ)) Q hQ
    · cases h

/-- Code of a deferred call. -/
def acodeS (E : Env) (self : Self) (n : Nat) : Code → List Value → Mem → PS → Option (AExit × List Value × Mem × PS)
  | .seq a b, T, m, s => match acodeS E self n a T m s with
    | some (.normal, T1, m1, s1) => acodeS E self n b T1 m1 s1
    | r => r
  | .cond c a b, T, m, s => if okOperand E.P c then match ev T c with
      | .bool true => acodeS E self n a T m s
      | .bool false => acodeS E self n b T m s
      | _ => none
    else none
  | .region _ ops false, T, m, s => match aopsS E self ops ops.toList T m s with
    | some (T1, m1, s1) => some (.normal, T1, m1, s1)
    | none => none
  | c, T, m, s => match acode E self n c T m with
    | some (e, T1, m1) => some (e, T1, m1, s)
    | none => none

def BodySOK (P : Program) (c : Code) (body : List Value → Mem → PS → Option (AExit × List Value × Mem × PS)) : Prop :=
  ∀ T m s e T1 m1 s1, body T m s = some (e, T1, m1, s1) → ∀ (D : List Deferred) (ρ : Ren) (u : FrameMode) (w : World) (a : Act) (c₀ : Frame) (cs : List Frame), a.defers = D → s.ok ρ u → MR P ρ m w → TR ρ T a.tmps →
    c.wpS P (fun e' a1 cs1 w1 => e' = e.to ∧ SPost D c₀ cs P ρ m w T1 m1 s1 a1 cs1 w1) a ({ c₀ with mode := u } :: cs) w

theorem wpS_mono {P : Program} {c : Code} {Q Q' : Exit → Act → List Frame → World → Prop} {a : Act} {cs : List Frame} {w : World} (h : c.wpS P Q a cs w) (hq : ∀ e a cs w, Q e a cs w → Q' e a cs w) : c.wpS P Q' a cs w :=
  fun b k hb hr => let ⟨e, a', cs', w', q, r⟩ := h b k hb hr; ⟨e, a', cs', w', hq _ _ _ _ q, r⟩

theorem plainS {E : Env} {c : Code} {body : List Value → Mem → CRes} (hb : BodyOK E.P c body) : BodySOK E.P c (fun T m s => match body T m with | some (e, T1, m1) => some (e, T1, m1, s) | none => none) := by
  intro T m s e T1 m1 s1 h D ρ u w a c₀ cs hd hso hm ht
  simp only at h
  split at h
  · rename_i e0 T0 m0 h0
    cases h
    refine wpS_of_wp (wp_mono (hb _ _ _ _ _ h0 D ρ w a hd hm ht) ?_)
    rintro e' a1 w1 ⟨rfl, hd1, ρ1, ht1, hm1, hx1⟩
    exact ⟨rfl, hd1, ρ1, u, rfl, PS.ok_mono hx1.le hso, ht1, hm1, hx1⟩
  · cases h

theorem acodeS_sound {E : Env} {self : Self} (hs : CallOK E.P (ainv E self)) (hE : EnvOK E) (n : Nat) : ∀ c : Code, codeOk E.P E.wr E.sr E.mkr c = true → BodySOK E.P c (acodeS E self n c) := by
  intro c
  induction c with
  | seq x y ihx ihy =>
    intro hco T m s e T1 m1 s1 h D ρ u w a c₀ cs hd hso hm ht
    simp only [codeOk, Bool.and_eq_true] at hco
    simp only [acodeS] at h
    split at h
    · rename_i T2 m2 s2 h2
      refine wpS_seq (wpS_mono (ihx hco.1 _ _ _ _ _ _ _ h2 D ρ u w a c₀ cs hd hso hm ht) ?_)
      rintro e' a1 cs1 w1 ⟨rfl, hd1, ρ1, u1, rfl, hso1, ht1, hm1, hx1⟩
      show y.wpS E.P _ a1 _ w1
      refine wpS_mono (ihy hco.2 _ _ _ _ _ _ _ h D ρ1 u1 w1 a1 c₀ cs hd1 hso1 hm1 ht1) ?_
      rintro e'' a2 cs2 w2 ⟨rfl, hp⟩
      exact ⟨rfl, hp.after hx1⟩
    · rename_i r hr
      refine wpS_seq (wpS_mono (ihx hco.1 _ _ _ _ _ _ _ h D ρ u w a c₀ cs hd hso hm ht) ?_)
      rintro e' a1 cs1 w1 ⟨rfl, hp⟩
      cases e with
      | normal => exact absurd h (hr _ _ _)
      | exit id => exact ⟨rfl, hp⟩
      | ret => exact ⟨rfl, hp⟩
  | cond c x y ihx ihy =>
    intro hco T m s e T1 m1 s1 h D ρ u w a c₀ cs hd hso hm ht
    simp only [codeOk, Bool.and_eq_true] at hco
    simp only [acodeS] at h
    split at h
    · rename_i hok
      have hv := ev_vr hm ht c hok
      split at h
      · rename_i hc
        rw [hc] at hv
        exact wpS_cond (t := true) (hv.eq_of_lit2 rfl) (ihx hco.1 _ _ _ _ _ _ _ h D ρ u w a c₀ cs hd hso hm ht)
      · rename_i hc
        rw [hc] at hv
        exact wpS_cond (t := false) (hv.eq_of_lit2 rfl) (ihy hco.2 _ _ _ _ _ _ _ h D ρ u w a c₀ cs hd hso hm ht)
      · cases h
    · cases h
  | region id ops draw =>
    intro hco T m s e T1 m1 s1 h D ρ u w a c₀ cs hd hso hm ht
    cases draw with
    | false =>
      simp only [acodeS] at h
      split at h
      · rename_i T2 m2 s2 h2
        cases h
        refine wpS_region ?_
        have := aopsS_sound hs hE.num hE.ext (ops := ops) (c₀ := c₀) (cs := cs) ops.toList 0 (by simp) _ _ _ _ _ _ h2 D ρ u w a hd hso hm ht (fun e' a1 cs1 w1 => e' = AExit.normal.to ∧ SPost D c₀ cs E.P ρ m w T1 m1 s1 a1 cs1 w1) fun a1 cs1 w1 hp => ⟨rfl, hp⟩
        rw [List.range_eq_range']
        simpa using this
      · cases h
    | true => exact plainS (acode_sound hs hE n _ hco) T m s e T1 m1 s1 h D ρ u w a c₀ cs hd hso hm ht
  | skip => intro hco; exact plainS (acode_sound hs hE n _ hco)
  | label l => intro hco; exact plainS (acode_sound hs hE n _ hco)
  | exit id => intro hco; exact plainS (acode_sound hs hE n _ hco)
  | ret => intro hco; exact plainS (acode_sound hs hE n _ hco)
  | block id x ihx => intro hco; exact plainS (acode_sound hs hE n _ hco)
  | loop x ihx => intro hco; exact plainS (acode_sound hs hE n _ hco)
  | scope x ihx => intro hco; exact plainS (acode_sound hs hE n _ hco)
  | rangeFunc f ps x y ihx ihy => intro hco; exact plainS (acode_sound hs hE n _ hco)
  | goto l => intro hco; exact plainS (acode_sound hs hE n _ hco)
  | refuse t => intro hco; exact plainS (acode_sound hs hE n _ hco)

/-- A deferred call. -/
def abodyS (E : Env) (self : Self) (n : Nat) (f : FuncId) (args : List Value) (m : Mem) (s : PS) : Option (Mem × PS) :=
  if E.good f then match E.P.funcs[f]? with
  | some fn => match fn.body with
    | some c => match acodeS E self n c (args ++ List.replicate (fn.ntmps - args.length) undef) m s with
      | some (.normal, T1, m1, s1) => (ares E.P fn T1 m1).map fun _ => (m1, s1)
      | some (.ret, T1, m1, s1) => (ares E.P fn T1 m1).map fun _ => (m1, s1)
      | _ => none
    | none => none
  | none => none
  else none

theorem abodyS_sound {E : Env} {self : Self} (hs : CallOK E.P (ainv E self)) (hE : EnvOK E) (n : Nat) {f : FuncId} {args : List Value} {m m1 : Mem} {s s1 : PS} (h : abodyS E self n f args m s = some (m1, s1))
    {ρ : Ren} {u : FrameMode} {w : World} {args' : Array Value} (hm : MR E.P ρ m w) (ht : TR ρ args args') (hso : s.ok ρ u) :
    CallsD E.P f args' u w fun e u' w' => ∃ v ρ1, e = .returned v ∧ s1.ok ρ1 u' ∧ MR E.P ρ1 m1 w' ∧ Ext ρ m w ρ1 m1 w' := by
  unfold abodyS at h
  split at h
  case isFalse => cases h
  rename_i hgd
  split at h
  · rename_i fn hfn
    split at h
    · rename_i c hc
      have key : ∀ e T1, e ≠ AExit.exit 0 → (e = .normal ∨ e = .ret) → acodeS E self n c (args ++ List.replicate (fn.ntmps - args.length) undef) m s = some (e, T1, m1, s1) → (∃ v, ares E.P fn T1 m1 = some v) →
          CallsD E.P f args' u w fun e u' w' => ∃ v ρ1, e = .returned v ∧ s1.ok ρ1 u' ∧ MR E.P ρ1 m1 w' ∧ Ext ρ m w ρ1 m1 w' := by
        rintro e T1 _ he h2 ⟨v, hv⟩
        refine callsD_of_wpS hfn hc fun c₀ cs hu => ?_
        have hc0 : c₀ = { c₀ with mode := u } := by cases c₀; simp at hu; subst hu; rfl
        have := acodeS_sound hs hE n c (hE.good f fn c hgd hfn hc) _ _ _ _ _ _ _ h2 [] ρ u w { tmps := args' ++ Array.replicate (fn.ntmps - args'.size) undef, defers := [] } c₀ cs rfl hso hm (tr_start ht fn.ntmps)
        rw [hc0]
        refine wpS_mono this ?_
        rintro e' a1 cs1 w1 ⟨rfl, hd1, ρ1, u1, rfl, hso1, ht1, hm1, hx1⟩
        obtain ⟨v', hrun, _⟩ := ares_sound hm1 ht1 hv
        rcases he with rfl | rfl
        · exact ⟨hd1, u1, rfl, v', hrun, v', ρ1, rfl, hso1, hm1, hx1⟩
        · exact ⟨hd1, u1, rfl, v', hrun, v', ρ1, rfl, hso1, hm1, hx1⟩
      split at h
      · rename_i T1 m2 s2 h2
        cases hv : ares E.P fn T1 m2 with
        | none => rw [hv] at h; cases h
        | some v => rw [hv] at h; cases h; exact key .normal T1 (by simp) (.inl rfl) h2 ⟨v, hv⟩
      · rename_i T1 m2 s2 h2
        cases hv : ares E.P fn T1 m2 with
        | none => rw [hv] at h; cases h
        | some v => rw [hv] at h; cases h; exact key .ret T1 (by simp) (.inr rfl) h2 ⟨v, hv⟩
      · cases h
    · cases h
  · cases h

/-- Operations one behind the other, the last of which defers a call. -/
def aopsD (E : Env) (self : Self) (ops : Array Oper) : List Oper → List Value → Mem → Option (List Value × Mem × FuncId × List Value)
  | [], _, _ => none
  | o :: l, T, m => match agd ops T o with
    | some true => if okOp E.P o.op then match o.op with
        | .defer c => match l, c.callee with
          | [], .value f => match ev T f with
            | .func (.func g) a b => match callableB E.P g with
              | true => some (aput T o.dst undef, m, g, a.toList ++ c.args.toList.map (ev T) ++ b.toList)
              | false => none
            | _ => none
          | _, _ => none
        | _ => match astep E self T m o with
          | some (v, m1) => aopsD E self ops l (aput T o.dst v) m1
          | none => none
      else none
    | some false => aopsD E self ops l (aput T o.dst undef) m
    | none => none

/-- A call that waits to be made. -/
def DefIs (P : Program) (ρ : Ren) (g : FuncId) (dargs : List Value) (d : Deferred) : Prop :=
  ∃ cap : Array Value, d.target = .fn (.func g) cap ∧ TR ρ dargs (d.args ++ cap) ∧ ∀ w : World, (invoke d.target d.args).run P w = .ok (.enter g (d.args ++ cap)) w

theorem DefIs.mono {P : Program} {ρ ρ' : Ren} (hl : ρ.le ρ') {g : FuncId} {dargs : List Value} {d : Deferred} (h : DefIs P ρ g dargs d) : DefIs P ρ' g dargs d := by
  obtain ⟨cap, h1, h2, h3⟩ := h
  exact ⟨cap, h1, h2.mono hl, h3⟩

theorem aopsD_sound {E : Env} {self : Self} (hs : CallOK E.P (ainv E self)) (hnum : noNum E.P) (hx9 : XOK E) {ops : Array Oper} :
    ∀ (l : List Oper) (T : List Value) (m : Mem) (T1 : List Value) (m1 : Mem) (g : FuncId) (dargs : List Value), aopsD E self ops l T m = some (T1, m1, g, dargs) → ∀ (ρ : Ren) (w : World) (a : Act), a.defers = [] → MR E.P ρ m w → TR ρ T a.tmps →
      ∀ (Q : Exit → Act → World → Prop), (∀ a1 w1 ρ1 d, a1.defers = [d] → DefIs E.P ρ1 g dargs d → TR ρ1 T1 a1.tmps → MR E.P ρ1 m1 w1 → Ext ρ m w ρ1 m1 w1 → Q .normal a1 w1) → wpList E.P ops Q l a w
  | [], T, m, T1, m1, g, dargs, h, ρ, w, a, hd, hm, ht, Q, hQ => by simp [aopsD] at h
  | o :: l, T, m, T1, m1, g, dargs, h, ρ, w, a, hd, hm, ht, Q, hQ => by
    unfold aopsD at h
    split at h
    · rename_i hg
      split at h
      · rename_i hok
        simp only [wpList, agd_sound ht.size (fun _ _ _ d _ _ _ x y => ht.at_ d x y) hg, if_true]
        left
        split at h
        · rename_i c ho
          split at h
          · rename_i f hc
            split at h
            · rename_i g0 fa fb hf
              split at h
              · rename_i hcall
                simp only [Option.some.injEq, Prod.mk.injEq] at h
                obtain ⟨rfl, rfl, rfl, rfl⟩ := h
                have hev := ev_all hm ht hok
                have hfv := hev f (by simp [ho, Op.operands, Call.operands, hc])
                rw [hf] at hfv
                obtain ⟨a', b', hfe, hn, hi, hk, hj⟩ := vr_func_inv (a := fa.toList) (b := fb.toList) hfv
                have htr : TR ρ (c.args.toList.map (ev T)) (c.args.map a.eval) := by
                  obtain ⟨h1, h2⟩ := vr_map (T := T) (a := a) (ρ := ρ) (l := c.args) fun x hx => hev x (by simp [ho, Op.operands, Call.operands]; right; simpa using hx)
                  exact ⟨by simp, fun i x y hx hy => h2 i x y hx (by simpa using hy)⟩
                unfold callableB at hcall
                split at hcall
                · rename_i fn hfn
                  obtain ⟨code, hcode⟩ := Option.isSome_iff_exists.1 hcall
                  have hrun : (execOp a.eval o).run E.P w = .ok (.defer { target := .fn (.func g0) ⟨b'⟩, args := (⟨a'⟩ : Array Value) ++ c.args.map a.eval }) w := by
                    simp [execOp, ho, resolve, hc, hfe, Deferred.ofValue]
                  unfold Oper.wp
                  rw [hrun, Oper.upon_defer]
                  refine hQ _ w ρ { target := .fn (.func g0) ⟨b'⟩, args := (⟨a'⟩ : Array Value) ++ c.args.map a.eval } ?_ ⟨⟨b'⟩, rfl, tr_caps hn hi hk hj htr, fun w' => ?_⟩ ?_ hm (Ext.refl' _ hm.dom)
                  · rw [put_defers, hd]
                  · have hn := hnum g0 fn hfn
                    simp only [beq_eq_false_iff_ne, ne_eq] at hn
                    simp [invoke, callFunc, hfn, hn, hcode]
                  · exact tr_put (a := { tmps := a.tmps, defers := { target := .fn (.func g0) ⟨b'⟩, args := (⟨a'⟩ : Array Value) ++ c.args.map a.eval } :: a.defers }) ht o.dst (vr_undef ρ)
                · cases hcall
              · cases h
            · cases h
          · cases h
        · split at h
          · rename_i v m2 hst
            refine astep_wp hs hnum hx9 hm (ev_all hm ht hok) hok hst fun v' w1 ρ1 hv hm1 hx => ?_
            exact aopsD_sound hs hnum hx9 l _ _ _ _ _ _ h ρ1 w1 _ (by rw [put_defers]; exact hd) hm1 (tr_put (ht.mono hx.le) o.dst hv) Q fun a2 w2 ρ2 d h1 h2 h3 h4 h5 => hQ a2 w2 ρ2 d h1 h2 h3 h4 (hx.trans h5)
          · cases h
      · cases h
    · rename_i hg
      simp only [wpList, agd_sound ht.size (fun _ _ _ d _ _ _ x y => ht.at_ d x y) hg, Bool.false_eq_true, if_false]
      exact aopsD_sound hs hnum hx9 l _ _ _ _ _ _ h ρ w _ (by rw [put_defers]; exact hd) hm (tr_put ht o.dst (vr_undef ρ)) Q hQ
    · cases h

/-- Code that defers one call: which one, whether the rest panicked, the temporaries, the memory. -/
def acodeD (E : Env) (self sp : Self) (n : Nat) : Code → List Value → Mem → Option (FuncId × List Value × Option Value × List Value × Mem)
  | .seq a b, T, m => match acode E self n a T m with
    | some (.normal, T1, m1) => acodeD E self sp n b T1 m1
    | some _ => none
    | none => match a with
      | .region _ ops false => match aopsD E self ops ops.toList T m with
        | some (T1, m1, g, dargs) => match acode E self n b T1 m1 with
          | some (.normal, T2, m2) => some (g, dargs, none, T2, m2)
          | some (.ret, T2, m2) => some (g, dargs, none, T2, m2)
          | some _ => none
          | none => match acodeP E self sp n b T1 m1 with
            | some (pv, T2, m2) => some (g, dargs, some pv, T2, m2)
            | none => none
        | none => none
      | _ => none
  | _, _, _ => none

def DPost (P : Program) (ρ : Ren) (m : Mem) (w : World) (g : FuncId) (dargs : List Value) (pan : Option Value) (T1 : List Value) (m1 : Mem) (e : Exit) (a1 : Act) (w1 : World) : Prop :=
  ∃ ρ1 d, a1.defers = [d] ∧ DefIs P ρ1 g dargs d ∧ TR ρ1 T1 a1.tmps ∧ MR P ρ1 m1 w1 ∧ Ext ρ m w ρ1 m1 w1 ∧
    match pan with
    | none => e = .normal ∨ e = .ret
    | some pv => ∃ pv', e = .panic [{ v := pv', recovered := false }] ∧ VR ρ1 pv pv'

theorem acodeD_sound {E : Env} {self sp : Self} (hs : CallOK E.P (ainv E self)) (hp : PanOK E.P (ainvP E sp)) (hE : EnvOK E) (n : Nat) : ∀ c : Code, codeOk E.P E.wr E.sr E.mkr c = true → ∀ T m g dargs pan T1 m1, acodeD E self sp n c T m = some (g, dargs, pan, T1, m1) →
    ∀ (ρ : Ren) (w : World) (a : Act), a.defers = [] → MR E.P ρ m w → TR ρ T a.tmps → c.wp E.P (DPost E.P ρ m w g dargs pan T1 m1) a w := by
  intro c
  induction c with
  | seq x y ihx ihy =>
    intro hco T m g dargs pan T1 m1 h ρ w a hd hm ht
    simp only [codeOk, Bool.and_eq_true] at hco
    simp only [acodeD] at h
    split at h
    · rename_i T2 m2 h2
      refine wp_seq (wp_mono (acode_sound hs hE n x hco.1 _ _ _ _ _ h2 [] ρ w a hd hm ht) ?_)
      rintro e' a1 w1 ⟨rfl, hd1, ρ1, ht1, hm1, hx1⟩
      show y.wp E.P _ a1 w1
      refine wp_mono (ihy hco.2 _ _ _ _ _ _ _ h ρ1 w1 a1 hd1 hm1 ht1) ?_
      rintro e a2 w2 ⟨ρ2, d, h3, h4, h5, h6, h7, h8⟩
      exact ⟨ρ2, d, h3, h4, h5, h6, hx1.trans h7, h8⟩
    · cases h
    · split at h
      · rename_i id ops
        split at h
        · rename_i T2 m2 g0 da0 h2
          refine wp_seq (wp_region_list (aopsD_sound hs hE.num hE.ext _ _ _ _ _ _ _ h2 ρ w a hd hm ht _ fun a1 w1 ρ1 d hd1 hdi ht1 hm1 hx1 => ?_))
          show y.wp E.P _ a1 w1
          split at h
          · rename_i T3 m3 h3
            simp only [Option.some.injEq, Prod.mk.injEq] at h
            obtain ⟨rfl, rfl, rfl, rfl, rfl⟩ := h
            refine wp_mono (acode_sound hs hE n y hco.2 _ _ _ _ _ h3 [d] ρ1 w1 a1 hd1 hm1 ht1) ?_
            rintro e' a2 w2 ⟨rfl, hd2, ρ2, ht2, hm2, hx2⟩
            exact ⟨ρ2, d, hd2, hdi.mono hx2.le, ht2, hm2, hx1.trans hx2, .inl rfl⟩
          · rename_i T3 m3 h3
            simp only [Option.some.injEq, Prod.mk.injEq] at h
            obtain ⟨rfl, rfl, rfl, rfl, rfl⟩ := h
            refine wp_mono (acode_sound hs hE n y hco.2 _ _ _ _ _ h3 [d] ρ1 w1 a1 hd1 hm1 ht1) ?_
            rintro e' a2 w2 ⟨rfl, hd2, ρ2, ht2, hm2, hx2⟩
            exact ⟨ρ2, d, hd2, hdi.mono hx2.le, ht2, hm2, hx1.trans hx2, .inr rfl⟩
          · cases h
          · split at h
            · rename_i pv T3 m3 h3
              simp only [Option.some.injEq, Prod.mk.injEq] at h
              obtain ⟨rfl, rfl, rfl, rfl, rfl⟩ := h
              refine wp_mono (acodeP_sound hs hp hE n y hco.2 _ _ _ _ _ h3 [d] ρ1 w1 a1 hd1 hm1 ht1) ?_
              rintro e' a2 w2 ⟨pv', ρ2, rfl, hd2, ht2, hv2, hm2, hx2⟩
              exact ⟨ρ2, d, hd2, hdi.mono hx2.le, ht2, hm2, hx1.trans hx2, pv', rfl, hv2⟩
            · cases h
        · cases h
      · cases h
  | region id ops draw => intro _ T m g dargs pan T1 m1 h; simp [acodeD] at h
  | cond c x y ihx ihy => intro _ T m g dargs pan T1 m1 h; simp [acodeD] at h
  | block id x ihx => intro _ T m g dargs pan T1 m1 h; simp [acodeD] at h
  | loop x ihx => intro _ T m g dargs pan T1 m1 h; simp [acodeD] at h
  | scope x ihx => intro _ T m g dargs pan T1 m1 h; simp [acodeD] at h
  | skip => intro _ T m g dargs pan T1 m1 h; simp [acodeD] at h
  | label l => intro _ T m g dargs pan T1 m1 h; simp [acodeD] at h
  | exit id => intro _ T m g dargs pan T1 m1 h; simp [acodeD] at h
  | ret => intro _ T m g dargs pan T1 m1 h; simp [acodeD] at h
  | rangeFunc f ps x y ihx ihy => intro _ T m g dargs pan T1 m1 h; simp [acodeD] at h
  | goto l => intro _ T m g dargs pan T1 m1 h; simp [acodeD] at h
  | refuse s => intro _ T m g dargs pan T1 m1 h; simp [acodeD] at h

/-- A call of a function that defers one call, which recovers what there is. -/
def abodyD (E : Env) (self sp : Self) (n : Nat) (f : FuncId) (args : List Value) (m : Mem) : Option (Value × Mem) :=
  if E.good f then match E.P.funcs[f]? with
  | some fn => match fn.body with
    | some c => match acodeD E self sp n c (args ++ List.replicate (fn.ntmps - args.length) undef) m with
      | some (g, dargs, pan, T2, m2) => match abodyS E self n g dargs m2 (match pan with | none => .none | some pv => .live pv) with
        | some (m3, .none) => (ares E.P fn T2 m3).map (·, m3)
        | some (m3, .done) => (ares E.P fn T2 m3).map (·, m3)
        | _ => none
      | none => none
    | none => none
  | none => none
  else none

theorem abodyD_sound {E : Env} {self sp : Self} (hs : CallOK E.P (ainv E self)) (hp : PanOK E.P (ainvP E sp)) (hE : EnvOK E) (n : Nat) : CallOK E.P (abodyD E self sp n) := by
  intro f args m v m1 h ρ w args' hm ht
  unfold abodyD at h
  split at h
  case isFalse => cases h
  rename_i hgd
  split at h
  · rename_i fn hfn
    split at h
    · rename_i c hc
      split at h
      · rename_i g dargs pan T2 m2 h2
        have key : ∀ m3 s3, (s3 = PS.none ∨ s3 = PS.done) → abodyS E self n g dargs m2 (match pan with | none => .none | some pv => .live pv) = some (m3, s3) → (ares E.P fn T2 m3).map (·, m3) = some (v, m1) → Calls E.P f args' w (Ends E.P ρ m w v m1) := by
          intro m3 s3 hs3 h3 h4
          obtain ⟨h4, rfl⟩ := map_pair h4
          refine calls_of_wp_defers hfn hc ?_
          refine wp_mono (acodeD_sound hs hp hE n c (hE.good f fn c hgd hfn hc) _ _ _ _ _ _ _ h2 ρ w _ rfl hm (tr_start ht fn.ntmps)) ?_
          rintro e a1 w1 ⟨ρ1, d, hd1, ⟨cap, hdt, hda, hdi⟩, ht1, hm1, hx1, hpan⟩
          have leave : ∀ u, u ≠ .run → (match pan with | none => PS.none | some pv => .live pv).ok ρ1 u → Leaves E.P fn a1.tmps (Ends E.P ρ m w v m1) a1.defers u w1 := by
            intro u hu hso
            rw [hd1]
            obtain ⟨dt, dar⟩ := d
            simp only at hdt hdi hda
            subst hdt
            refine leaves_cons hu (hdi w1) ?_
            refine (abodyS_sound hs hE n h3 hm1 hda hso).mono ?_
            rintro e' u' w' ⟨v9, ρ2, rfl, hso2, hm2, hx2⟩
            have hset : settle u' = .returning := by
              rcases hs3 with rfl | rfl
              · rw [show u' = .returning from hso2]; rfl
              · obtain ⟨pv', rfl⟩ := hso2; rfl
            show Leaves E.P fn a1.tmps _ [] (settle u') w'
            rw [hset]
            obtain ⟨v', hrun, hv⟩ := ares_sound hm2 (ht1.mono hx2.le) h4
            exact ⟨v', hrun, v', ρ2, rfl, hv, hm2, hx1.trans hx2⟩
          cases pan with
          | none =>
            rcases hpan with rfl | rfl
            · exact leave .returning (by simp) rfl
            · exact leave .returning (by simp) rfl
          | some pv =>
            obtain ⟨pv', rfl, hv⟩ := hpan
            exact leave (.panicking [{ v := pv', recovered := false }]) (by simp) ⟨pv', rfl, hv⟩
        split at h
        · rename_i m3 h3; exact key m3 .none (.inl rfl) h3 h
        · rename_i m3 h3; exact key m3 .done (.inr rfl) h3 h
        · cases h
      · cases h
    · cases h
  · cases h

/-- A program's functions, with so much fuel, where that is known: what they answer; what they panic with. -/
def runQ (E : Env) (M : Mem) (K : List Fact) : Nat → Self × Self
  | 0 => (fun _ _ _ => none, fun _ _ _ => none)
  | n + 1 => (fun f args m => match hasF K f && eqM m M with
      | true => match lookF K f args with
        | some v => some (v, m)
        | none => none
      | false => match abody E (runQ E M K n).1 (n + 1) f args m with
        | some r => some r
        | none => abodyD E (runQ E M K n).1 (runQ E M K n).2 (n + 1) f args m,
    fun f args m => abodyP E (runQ E M K n).1 (runQ E M K n).2 (n + 1) f args m)

theorem runQ_sound {E : Env} (hE : EnvOK E) {M : Mem} {K : List Fact} (hK : ∀ F, F ∈ K → F.holds E.P M) : ∀ n, CallOK E.P (runQ E M K n).1 ∧ PanOK E.P (runQ E M K n).2
  | 0 => ⟨fun f args m v m1 h => by simp [runQ] at h, fun f args m v m1 h => by simp [runQ] at h⟩
  | n + 1 => by
    obtain ⟨h1, h2⟩ := runQ_sound hE hK n
    have hs := ainv_sound hE.globals hE.fast h1
    have hp := ainvP_sound hE.globals h2
    refine ⟨?_, abodyP_sound hs hp hE (n + 1)⟩
    intro f args m v m1 h
    simp only [runQ] at h
    split at h
    · rename_i hb
      simp only [Bool.and_eq_true] at hb
      split at h
      · rename_i v0 hl
        cases h
        obtain ⟨F, hF, rfl, rfl, rfl⟩ := lookF_sound hl
        rw [eqM_sound hb.2]
        exact hK F hF
      · cases h
    · split at h
      · rename_i r hr
        cases h
        exact abody_sound hs hE (n + 1) _ _ _ _ _ hr
      · exact abodyD_sound hs hp hE (n + 1) _ _ _ _ _ h

end
end Go.Am

/-
  The document's numbers: what they are in memory (own work).
-/
set_option linter.unusedSimpArgs false
set_option linter.unusedVariables false
namespace Go.Am.Seat
open Go.Proofs Go.Am
set_option maxRecDepth 100000

/-- How long a slice is. -/
def lenV (v : Value) : Option Int := match v with
  | .slice none 0 0 => some 0
  | .slice (some _) n _ => some ((n : Nat) : Int)
  | _ => none
theorem lenN0 (ty : TypeId) : apC1 E.P .len #[27] ty (.slice none 0 0) = some (.int .i64 0) := by kernel_rfl
theorem len_N {T : List Value} {m : Mem} {d : Option Tmp} {j : Nat} {ty : TypeId} {pos : String} {af : Array Edge} {g : Option (Nat × Bool)} :
    abuiltin E.P T m { dst := d, op := .call { callee := .builtin .len, args := #[.tmp j], argTypes := #[27] }, type := ty, pos := pos, after := af, guard := g } .len [.tmp j] [27] =
      match lenV (nth T j) with
      | some n => some (.int .i64 n, m)
      | none => (match alen E.P 27 (nth T j) with
        | some v => some (v, m)
        | none => (apure E.P T { dst := d, op := .call { callee := .builtin .len, args := #[.tmp j], argTypes := #[27] }, type := ty, pos := pos, after := af, guard := g }).map (·, m)) := by
  cases h : lenV (nth T j) with
  | none => rfl
  | some n =>
    generalize hv : nth T j = v at h
    unfold lenV at h
    split at h
    · cases h
      simp only [abuiltin, ev, hv, alen, apure_call1, lenN0, lit2, lit1, lit0, if_true, Option.map_some]
    · cases h
      simp only [abuiltin, ev, hv, alen, und27]
    · cases h

theorem abuiltin_app {T : List Value} {m : Mem} {o : Oper} {a b : Operand} {sT xT : TypeId} : abuiltin E.P T m o .append [a, b] [sT, xT] = match aappend E.P sT xT (ev T a) (ev T b) m with
    | some r => some r
    | none => aappendZ E.P sT xT (ev T a) (ev T b) m := rfl
/-- A number's bytes, where a slice leads. -/
def NumA (m : Mem) (v : Value) (l : List Nat) : Prop := lenV v = some ((l.length : Nat) : Int) ∧
  ∀ (i x : Nat), l[i]? = some x → ∃ b o, aindexAddr E.P 27 v (.int .i64 (i : Nat)) = some (.pointer (some ⟨b, o, none⟩)) ∧ cellAt m b o = some (.int .i64 (x : Nat))
theorem NumA.nil (m : Mem) : NumA m (.slice none 0 0) [] := ⟨rfl, fun i x h => by simp at h⟩
theorem cell_in {m : Mem} {b o : Nat} {v : Value} (h : cellAt m b o = some v) : b < m.length := by
  by_cases hb : b < m.length
  · exact hb
  · have : look m b = none := by
      unfold look
      rw [List.getElem?_eq_none (by omega)]
    unfold cellAt at h
    rw [this] at h
    cases h
theorem cell_same {m m' : Mem} {b : Nat} (h : m'[b]? = m[b]?) (o : Nat) : cellAt m' b o = cellAt m b o := by
  unfold cellAt look
  rw [h]
theorem cell_sealed (m : Mem) (b o : Nat) : cellAt (m.map sealed) b o = cellAt m b o := by
  unfold cellAt look
  rw [List.getElem?_map]
  cases m[b]? with
  | none => rfl
  | some x => cases x <;> rfl
theorem NumA.keep {m m' : Mem} {v : Value} {l : List Nat} (h : NumA m v l) (hk : ∀ k, k < m.length → m'[k]? = m[k]?) : NumA m' v l := by
  refine ⟨h.1, fun i x hx => ?_⟩
  obtain ⟨b, o, h1, h2⟩ := h.2 i x hx
  exact ⟨b, o, h1, by rw [cell_same (hk b (cell_in h2))]; exact h2⟩
theorem NumA.sealed {m : Mem} {v : Value} {l : List Nat} (h : NumA m v l) : NumA (m.map sealed) v l := by
  refine ⟨h.1, fun i x hx => ?_⟩
  obtain ⟨b, o, h1, h2⟩ := h.2 i x hx
  exact ⟨b, o, h1, by rw [cell_sealed]; exact h2⟩
theorem NumA.lit {m : Mem} {v : Value} {l : List Nat} (h : NumA m v l) (hv : lit2 v = true) : v = .slice none 0 0 ∧ l = [] := by
  have h1 := h.1
  unfold lenV at h1
  split at h1
  · simp only [Option.some.injEq] at h1
    exact ⟨rfl, List.eq_nil_of_length_eq_zero (by omega)⟩
  · simp [lit2, lit1, lit0] at hv
  · cases h1
theorem NumA.row {m : Mem} {b n c : Nat} {ro : Bool} {L : List Nat} (h : m[b]? = some (.row ro 3 (cellsN L))) (hn : n ≤ L.length) : NumA m (.slice (some ⟨b, 0, none⟩) n c) (L.take n) := by
  refine ⟨by simp only [lenV, List.length_take, Nat.min_eq_left hn], fun i x hx => ⟨b, i, ?_, ?_⟩⟩
  · have hi : i < n := by
      have := (List.getElem?_eq_some_iff.1 hx).1
      rw [List.length_take] at this
      omega
    exact ix27 hi
  · have hi : i < n := by
      have := (List.getElem?_eq_some_iff.1 hx).1
      rw [List.length_take] at this
      omega
    rw [List.getElem?_take, if_pos hi] at hx
    rw [cellAt_row h, cellsN_get hx]

/-- What a call leaves: a number in a row of its own, or nothing. -/
def NumR (m : Mem) (v : Value) (m' : Mem) (r : Nat) : Prop := (v = .slice none 0 0 ∧ m' = m ∧ r = 0) ∨
  ∃ (L : List Nat) (n : Nat), n ≤ L.length ∧ L.take n = dig r ∧ v = .slice (some ⟨m.length, 0, none⟩) n L.length ∧ m' = m ++ [.row false 3 (cellsN L)] ∧ L ≠ []
theorem NumR.is {m m' : Mem} {v : Value} {r : Nat} (h : NumR m v m' r) : NumA m' v (dig r) := by
  rcases h with ⟨rfl, rfl, rfl⟩ | ⟨L, n, h1, h2, rfl, rfl, hne⟩
  · rw [dig_zero]; exact NumA.nil _
  · rw [← h2]
    exact NumA.row (ro := false) (by simp) h1
theorem NumR.kept {m m' : Mem} {v : Value} {r : Nat} (h : NumR m v m' r) : ∀ k, k < m.length → m'[k]? = m[k]? := by
  rcases h with ⟨rfl, rfl, rfl⟩ | ⟨L, n, h1, h2, rfl, rfl, hne⟩
  · exact fun _ _ => rfl
  · exact fun k hk => List.getElem?_append_left hk

/-- What a body leaves, before it is collected. -/
def NumB (B : Nat) (v : Value) (m' : Mem) (r : Nat) : Prop := (v = .slice none 0 0 ∧ r = 0) ∨
  ∃ (L : List Nat) (n b : Nat) (ro : Bool), n ≤ L.length ∧ L.take n = dig r ∧ B ≤ b ∧ v = .slice (some ⟨b, 0, none⟩) n L.length ∧ m'[b]? = some (.row false 3 (cellsN L)) ∧ L ≠ []
theorem cellsN_lits (L : List Nat) : (cellsN L).all lit0 = true := by
  unfold cellsN
  rw [List.all_map, List.all_eq_true]
  intro x _
  rfl
theorem NumB.coll {m m1 : Mem} {B : Nat} {v : Value} {r : Nat} (h : NumB B v m1 r) : ∃ v' m', acoll m B v m1 = some (v', m') ∧ NumR m v' m' r := by
  rcases h with ⟨rfl, rfl⟩ | ⟨L, n, b, ro, h1, h2, h3, rfl, h4, hne⟩
  · exact ⟨_, m, by unfold acoll; exact if_pos rfl, .inl ⟨rfl, rfl, rfl⟩⟩
  · exact ⟨_, _, acoll_new h3 h4 (cellsN_lits L), .inr ⟨L, n, h1, h2, rfl, rfl, hne⟩⟩

/-- A call of two numbers. -/
theorem num2_call {self : Self} {g : FuncId} {m : Mem} {a b : Value} {la lb : List Nat} {r : Nat} (hf : E.fast g = none) (hw : E.wr g = false) (ha : NumA m a la) (hb : NumA m b lb)
    (h : ∀ M : Mem, NumA M a la → NumA M b lb → ∃ v m1, self g [a, b] M = some (v, m1) ∧ NumB M.length v m1 r) : ∃ v m', ainv E self g [a, b] m = some (v, m') ∧ NumR m v m' r := by
  unfold ainv
  by_cases hl : ([a, b].all lit2) = true
  · rw [if_pos hl, hf]
    simp only [List.all_cons, List.all_nil, Bool.and_true, Bool.and_eq_true] at hl
    obtain ⟨rfl, rfl⟩ := ha.lit hl.1
    obtain ⟨rfl, rfl⟩ := hb.lit hl.2
    obtain ⟨v, m1, h1, h2⟩ := h ((m.take E.G).map onlyTab) (NumA.nil _) (NumA.nil _)
    simp only [h1]
    exact h2.coll
  · rw [if_neg hl, hw]
    obtain ⟨v, m1, h1, h2⟩ := h (m.map sealed) ha.sealed hb.sealed
    simp only [Bool.false_eq_true, if_false, h1]
    exact h2.coll

/-- A row of bytes that grows, behind what was there. -/
def GN (B : Nat) (m : Mem) (v : Value) (L : List Nat) : Prop := (L = [] ∧ v = .slice none 0 0) ∨ (∃ b, B ≤ b ∧ v = .slice (some ⟨b, 0, none⟩) L.length L.length ∧ m[b]? = some (.row false 3 (cellsN L)) ∧ L ≠ [])
theorem appN {B : Nat} {m : Mem} {v : Value} {x : Nat} {L : List Nat} (h : GN B m v L) (hB : B ≤ m.length) (hl : L.length ≤ 100000) :
    ∃ v' m', aappend E.P 27 27 v (.slice (some ⟨m.length, 0, none⟩) 1 1) (m ++ [.row false 3 [.int .i64 (x : Nat)]]) = some (v', m') ∧ GN B m' v' (L ++ [x]) ∧ m.length ≤ m'.length ∧ ∀ k, k < B → m'[k]? = m[k]? := by
  obtain ⟨hs, i, z, h1, h2, h3, h4, h5, h6⟩ := rowNum
  have hcs : cellsN (L ++ [x]) = cellsN L ++ [.int .i64 (x : Nat)] := by unfold cellsN; rw [List.map_append]; rfl
  have hsrc : asrc (m ++ [Blk.row false 3 [.int .i64 (x : Nat)]]) 1 (.slice (some ⟨m.length, 0, none⟩) 1 1) = some (1, [.int .i64 (x : Nat)]) := by
    have h : (m ++ [Blk.row false 3 [.int .i64 (x : Nat)]])[m.length]? = some (.row false 3 [.int .i64 (x : Nat)]) := by simp
    unfold asrc
    simp only [lookRow h]
    rfl
  rcases h with ⟨rfl, rfl⟩ | ⟨b, hBb, rfl, hb, hne⟩
  · refine ⟨.slice (some ⟨(m ++ [Blk.row false 3 [.int .i64 (x : Nat)]]).length, 0, none⟩) 1 1, m ++ [.row false 3 [.int .i64 (x : Nat)]] ++ [.row false 3 [.int .i64 (x : Nat)]], ?_, .inr ⟨_, by simp; omega, rfl, by simp [cellsN], by simp⟩, by simp, fun k hk => ?_⟩
    · unfold aappend
      simp only [hs, h1, h2, h3, hsrc, isIntD, h6]
      rw [if_neg (by simp [cellOk, h4]), if_neg (by omega), if_pos (by omega)]
    · rw [List.append_assoc, List.getElem?_append_left (by omega)]
  · have hbm := lt_of_at hb
    have hb2 : (m ++ [Blk.row false 3 [.int .i64 (x : Nat)]])[b]? = some (.row false 3 (cellsN L)) := by rw [List.getElem?_append_left hbm]; exact hb
    refine ⟨.slice (some ⟨(m ++ [Blk.row false 3 [.int .i64 (x : Nat)]]).length, 0, none⟩) (L.length + 1) (L.length + 1), (m ++ [Blk.row false 3 [.int .i64 (x : Nat)]]).set b .dead ++ [.row false 3 (cellsN L ++ [.int .i64 (x : Nat)])], ?_, .inr ⟨m.length + 1, by omega, by simp, by rw [List.getElem?_append_right (by simp), hcs]; simp, by simp⟩, by simp; omega, fun k hk => ?_⟩
    · unfold aappend
      simp only [hs, h1, h2, h3, hsrc, isIntD, h6, hb2]
      have hr : (2 * (L.length + 1) + 768) * i.bytes ≤ 281474976710656 := by
        have : (2 * (L.length + 1) + 768) * i.bytes ≤ (2 * (L.length + 1) + 768) * 8 := Nat.mul_le_mul_left _ h5
        omega
      rw [if_neg (by simp [cellOk, h4]), if_neg (by omega), if_pos ⟨trivial, trivial, by rw [cellsN_length]; omega, hr⟩]
      rw [Nat.mul_one, List.take_of_length_le (by rw [cellsN_length]; omega)]
    · rw [List.getElem?_append_left (by simp; omega), List.getElem?_set_ne (by omega), List.getElem?_append_left (by omega)]

theorem rem256 (s : Nat) : abin .rem .i64 ((s : Nat) : Int) .i64 256 = some (.int .i64 ((s % 256 : Nat) : Int)) := by
  have h : ∀ k : Int, abin .rem .i64 k .i64 256 = some (.int .i64 (k.tmod 256)) := fun k => by kernel_rfl
  rw [h, Int.tmod_eq_emod_of_nonneg (by omega)]
  congr 2
theorem quo256i {s : Nat} (hs : s < 1000000) : abin .quo .i64 ((s : Nat) : Int) .i64 256 = some (.int .i64 ((s / 256 : Nat) : Int)) := by
  have h : ∀ k : Int, abin .quo .i64 k .i64 256 = some (.int .i64 (wrapF .i64 (k.tdiv 256))) := fun k => by kernel_rfl
  rw [h, Int.tdiv_eq_ediv_of_nonneg (by omega), wrap_i64 (by omega) (by omega)]
  congr 2
theorem addNN {a b : Nat} (h : a + b < 1000000000) : wrapF .i64 (((a : Nat) : Int) + ((b : Nat) : Int)) = ((a + b : Nat) : Int) := by rw [wrap_i64 (by omega) (by omega)]; omega

theorem runQ_b {M : Mem} {K : List Fact} {n : Nat} {f : FuncId} {args : List Value} {m : Mem} {r : Value × Mem} (hK : hasF K f = false) (h : abody E (runQ E M K n).1 (n + 1) f args m = some r) : (runQ E M K (n + 1)).1 f args m = some r := by
  simp only [runQ, hK, Bool.false_and, Bool.false_eq_true, if_false, h]

/-- What answers calls by going through their bodies. -/
def Runs (R : Nat → Self) (K : List Fact) : Prop := ∀ (n : Nat) (f : FuncId) (args : List Value) (m : Mem) (r : Value × Mem), hasF K f = false → abody E (R n) (n + 1) f args m = some r → R (n + 1) f args m = some r
theorem Runs.b {R : Nat → Self} {K : List Fact} (hR : Runs R K) {n : Nat} {f : FuncId} {args : List Value} {m : Mem} {r : Value × Mem} (hK : hasF K f = false) (h : abody E (R n) (n + 1) f args m = some r) : R (n + 1) f args m = some r := hR n f args m r hK h
theorem runsQ (M : Mem) (K : List Fact) : Runs (fun n => (runQ E M K n).1) K := fun n f args m r hK h => runQ_b hK h
theorem runsK (M : Mem) (K : List Fact) : Runs (fun n => runK E M K n) K := fun n f args m r hK h => (runK_other hK).trans h

theorem trim_nil {self : Self} {k : Nat} {m : Mem} : abody E self (k + 1) 62 [.slice none 0 0] m = some (.slice none 0 0, m) := by kernel_rfl
/-- What trim answers. -/
def CTrim (self : Self) : Prop := ∀ (B : Nat) (m : Mem) (v : Value) (L : List Nat) (r : Nat), GN B m v L → L.length ≤ 1000 → (∀ x ∈ L, x < 256) → val L = r → ∃ v', ainv E self 62 [v] m = some (v', m) ∧ NumB B v' m r
theorem trim_val {L : List Nat} {n : Nat} (h : TrimAt L n) (hx : ∀ x ∈ L, x < 256) : L.take n = dig (val L) := by
  obtain ⟨h1, h2, h3⟩ := h
  have hv : val L = val (L.take n) := by
    have h4 : val L = val (L.take n ++ L.drop n) := by rw [List.take_append_drop]
    rw [h4, val_append, val_noughts (l := L.drop n) fun x hx => ?_, Nat.mul_zero, Nat.add_zero]
    obtain ⟨j, hj⟩ := List.getElem?_of_mem hx
    rw [List.getElem?_drop] at hj
    have h5 := h2 (n + j) (by omega) (List.getElem?_eq_some_iff.1 hj).1
    rw [h5] at hj
    cases hj
    rfl
  rw [hv]
  refine (dig_val (fun x hx9 => hx x (List.mem_of_mem_take hx9)) ?_).symm
  rcases h3 with rfl | ⟨x, h4, h5⟩
  · left; rfl
  · by_cases hn : n = 0
    · subst hn; left; rfl
    · right
      refine ⟨x, h4, ?_⟩
      rw [List.length_take, Nat.min_eq_left h1, List.getElem?_take, if_pos (by omega)]
      exact h5
theorem ctrim {R : Nat → Self} {K : List Fact} (hR : Runs R K) {n : Nat} (hK : hasF K 62 = false) (hn : 1000 ≤ n) : CTrim (R (n + 1)) := by
  intro B m v L r h hL hx hr
  rcases h with ⟨rfl, rfl⟩ | ⟨b, hBb, rfl, hb, hne⟩
  · refine ⟨.slice none 0 0, ?_, .inl ⟨rfl, by rw [← hr]; rfl⟩⟩
    exact ainv_lit rfl (by kernel_rfl) (hR.b hK trim_nil) rfl
  · have hpos : 0 < L.length := List.length_pos_iff.2 hne
    have hbs : (m.map sealed)[b]? = some (.row true 3 (cellsN L)) := by rw [List.getElem?_map, hb]; rfl
    obtain ⟨k, hT, hbd⟩ := trim_body (self := (R n)) (nf := n + 1) hbs hpos hL (by omega)
    refine ⟨.slice (some ⟨b, 0, none⟩) k L.length, ?_, .inr ⟨L, k, b, false, hT.1, by rw [← hr]; exact trim_val hT hx, hBb, rfl, hb, hne⟩⟩
    unfold ainv
    rw [show ([Value.slice (some ⟨b, 0, none⟩) L.length L.length].all lit2) = false from rfl, show E.wr 62 = false from by kernel_rfl]
    simp only [Bool.false_eq_true, if_false, hR.b hK hbd]
    exact acoll_old (by rw [List.length_map]; exact lt_of_at hb)
end Go.Am.Seat
