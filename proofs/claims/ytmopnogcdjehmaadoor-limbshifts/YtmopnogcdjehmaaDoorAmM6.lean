/-
  LimbShifts on the abstract machine: calls (own work).
-/
import Derived.Test.YtmopnogcdjehmaaDoorAmM5
import Derived.Test.YtmopnogcdjehmaaDoorAmQ
set_option linter.unusedSimpArgs false
set_option linter.unusedVariables false
namespace Go.Am.Seat
open Go.Proofs Go.Am
set_option maxRecDepth 100000

theorem acoll_old {m m1 : Mem} {n b o k c : Nat} (hb : b < n) : acoll m n (.slice (some ⟨b, o, none⟩) k c) m1 = some (.slice (some ⟨b, o, none⟩) k c, m) := by
  unfold acoll
  rw [if_neg (by simp [lit2, lit1, lit0])]
  simp only [partsOf, idsL, idOf, hb, if_true, closeIds, List.foldl_nil, nodupB, List.all_nil, Bool.and_self, renB, ren3, ren2, ren1, rid, List.append_nil]

theorem idsL_lit {n : Nat} : ∀ (l : List Value) (acc : List Nat), l.all lit0 = true → idsL n l acc = acc
  | [], _, _ => rfl
  | v :: l, acc, h => by
    simp only [List.all_cons, Bool.and_eq_true] at h
    have hv : idOf n v = [] := by
      have h1 := h.1
      cases v with
      | pointer a => cases a with
        | none => rfl
        | some a => simp [lit0] at h1
      | slice a x y => cases a with
        | none => rfl
        | some a => simp [lit0] at h1
      | _ => rfl
    unfold idsL
    rw [hv]
    exact idsL_lit l acc h.2

theorem renL_id {n N : Nat} {keep : List Nat} : ∀ (l : List Value), l.all lit0 = true → renL n N keep l = some l
  | [], _ => rfl
  | v :: l, h => by
    simp only [List.all_cons, Bool.and_eq_true] at h
    have hv : ren1 n N keep v = some v := by
      have h1 := h.1
      cases v with
      | pointer a => cases a with
        | none => rfl
        | some a => simp [lit0] at h1
      | slice a x y => cases a with
        | none => rfl
        | some a => simp [lit0] at h1
      | _ => first | rfl | simp only [ren1, h1, if_true]
    unfold renL
    rw [hv, renL_id l h.2]

theorem acoll_new {m m1 : Mem} {n b o k c : Nat} {ro : Bool} {e : TypeId} {cs : List Value} (hb : n ≤ b) (hm : m1[b]? = some (.row ro e cs)) (hc : cs.all lit0 = true) :
    acoll m n (.slice (some ⟨b, o, none⟩) k c) m1 = some (.slice (some ⟨m.length, o, none⟩) k c, m ++ [.row ro e cs]) := by
  have hnb : ¬ b < n := by omega
  unfold acoll
  rw [if_neg (by simp [lit2, lit1, lit0])]
  have h1 : idsL n (partsOf (.slice (some ⟨b, o, none⟩) k c)) [] = [b] := by
    simp [partsOf, idsL, idOf, hnb]
  have h2 : closeIds n m1 2 [b] = [b] := by
    simp only [closeIds, List.foldl_cons, List.foldl_nil, hm, idsL_lit cs [b] hc]
  simp only [h1, h2]
  rw [if_pos (by simp [nodupB, hb])]
  have h3 : rid n m.length [b] b = some m.length := by
    unfold rid
    rw [if_neg hnb]
    simp [List.idxOf?]
  simp only [renB, hm, renL_id cs hc, ren3, ren2, ren1, h3]

theorem trimAt_unique {l : List Nat} {n n' : Nat} (h : TrimAt l n) (h' : TrimAt l n') : n = n' := by
  obtain ⟨a1, a2, a3⟩ := h
  obtain ⟨b1, b2, b3⟩ := h'
  rcases Nat.lt_trichotomy n n' with hlt | he | hlt
  · rcases b3 with h0 | ⟨x, hx, hg⟩
    · omega
    · have := a2 (n' - 1) (by omega) (by omega)
      rw [hg] at this
      cases this
      omega
  · exact he
  · rcases a3 with h0 | ⟨x, hx, hg⟩
    · omega
    · have := b2 (n - 1) (by omega) (by omega)
      rw [hg] at this
      cases this
      omega

theorem trimAt_exists {l : List Nat} (hl : 0 < l.length) (hl' : l.length ≤ 1000) : ∃ n, TrimAt l n := by
  obtain ⟨n, hn, _⟩ := trim_body (self := fun _ _ _ => none) (nf := 1001) (m := [.row true 3 (cellsN l)]) (b := 0) (l := l) (ro := true) rfl hl hl' (by omega)
  exact ⟨n, hn⟩

theorem cellsN_lit (l : List Nat) : (cellsN l).all lit0 = true := by
  unfold cellsN
  rw [List.all_map, List.all_eq_true]
  intro x _
  rfl

section
variable {K : List Fact} {k n b : Nat} {M : Mem} {l : List Nat} {w : Nat → Nat} {Z : Mem}

/-- A call that only looks. -/
theorem ainv_look {self : Self} {g : FuncId} {args : List Value} {m m1 : Mem} {v : Value} (ha : args.all lit2 = false) (hw : E.wr g = false) (h : self g args (m.map sealed) = some (v, m1)) (hv : lit2 v = true) : ainv E self g args m = some (v, m) := by
  unfold ainv
  rw [ha, hw]
  simp only [Bool.false_eq_true, if_false, h]
  unfold acoll
  rw [if_pos hv]

theorem trim_call (hK : hasF K 51 = false) (hn : TrimAt l n) (hk : 1000 ≤ k) (hl : 0 < l.length) (hl' : l.length ≤ 1000) (hM : M[b]? = some (.row false 3 (cellsN l))) :
    ainv E (runK E Z K (k + 1)) 51 [.slice (some ⟨b, 0, none⟩) l.length l.length] M = some (.slice (some ⟨b, 0, none⟩) n l.length, M) := by
  have hs : (M.map sealed)[b]? = some (.row true 3 (cellsN l)) := by rw [List.getElem?_map, hM]; rfl
  obtain ⟨n', hn', hr⟩ := trim_body (self := runK E Z K k) (nf := k + 1) hs hl hl' (by omega)
  have := trimAt_unique hn hn'
  subst this
  have hw : E.wr 51 = false := by kernel_rfl
  unfold ainv
  rw [if_neg (by simp [lit2, lit1, lit0]), hw]
  simp only [Bool.false_eq_true, if_false, runK_other hK, hr]
  exact acoll_old (by rw [List.length_map]; exact lt_of_at hM)

theorem of_call {s : ByteArray} (hK : hasF K 51 = false) (hK' : hasF K 20 = false) (hn : TrimAt (natsOf s) n) (hk : 1000 ≤ k) (hs : s.data.toList.length ≤ 1000) (h0 : 0 < s.data.toList.length) :
    ainv E (runK E Z K (k + 2)) 20 [.string s] M = some (.slice (some ⟨M.length, 0, none⟩) n s.data.toList.length, M ++ [.row false 3 (cellsN (natsOf s))]) := by
  have hnl : (natsOf s).length = s.data.toList.length := by unfold natsOf; rw [List.length_map]
  obtain ⟨b, m', hr, hb, hle⟩ := of_body (self := runK E Z K (k + 1)) (nf := k + 2) (m := (M.take E.G).map onlyTab) (s := s) (n := n) hs h0 (by omega) (fun M' b' hM' => by
    have := trim_call (Z := Z) hK hn hk (by omega) (by omega) hM'
    rw [hnl] at this
    exact this)
  unfold ainv
  rw [if_pos (show [Value.string s].all lit2 = true from rfl), show E.fast 20 = none from by kernel_rfl]
  simp only [runK_other hK', hr]
  exact acoll_new hle hb (cellsN_lit _)

/-- The document's number of eight words. -/
theorem byS_list (w : Nat → Nat) : (byS w).data.toList.length = 64 := by
  unfold byS
  rw [bytesOfL_list, List.length_map, byL_length]
theorem byW_lt (w : Nat → Nat) (t : Nat) : byW w t < 256 := Nat.mod_lt _ (by omega)
theorem natsOf_byS (w : Nat → Nat) : natsOf (byS w) = (List.range 64).map (byW w) := by
  unfold natsOf byS byL
  rw [bytesOfL_list, List.map_map, List.map_map]
  apply List.map_congr_left
  intro t _
  show (UInt8.ofNat (((byW w t : Nat) : Int)).toNat).toNat = byW w t
  rw [Int.toNat_natCast, UInt8.toNat_ofNat']
  exact Nat.mod_eq_of_lt (byW_lt w t)

theorem num_call (hK : hasF K 51 = false) (hK' : hasF K 20 = false) (hK2 : hasF K 13 = false) (hn : TrimAt (natsOf (byS w)) n) (hk : 1000 ≤ k) :
    ainv E (runK E Z K (k + 3)) 13 [wide w] M = some (.slice (some ⟨M.length, 0, none⟩) n 64, M ++ [.row false 3 (cellsN (natsOf (byS w)))]) := by
  obtain ⟨m', hr, hle⟩ := num_body (self := runK E Z K (k + 2)) (nf := k + 3) (m := (M.take E.G).map onlyTab) (w := w) (k := n) (l := cellsN (natsOf (byS w))) (by omega) (fun M' => by
    have := of_call (M := M') (Z := Z) (s := byS w) hK hK' hn hk (by rw [byS_list]; omega) (by rw [byS_list]; omega)
    rw [byS_list] at this
    exact this)
  unfold ainv
  rw [if_pos (by simp only [List.all_cons, List.all_nil, wide_lit, Bool.and_self]), show E.fast 13 = none from by kernel_rfl]
  simp only [runK_other hK2, hr]
  exact acoll_new hle (by simp) (cellsN_lit _)

theorem rbit_call {c : Nat} {iv : Int} {ro : Bool} (hK : hasF K 36 = false) (hM : M[b]? = some (.row ro 3 (cellsN l))) (hn : n ≤ l.length) (hl : l.length ≤ 1000) (hx : ∀ x, x ∈ l → x < 256) (hi : iv < 9223372036854775808) (hk : 1000 ≤ k) :
    ainv E (runK E Z K (k + 1)) 36 [.slice (some ⟨b, 0, none⟩) n c, .int .i64 iv] M = some (.int .i64 ((rbit l n iv : Nat) : Int), M) := by
  have hs : (M.map sealed)[b]? = some (.row true 3 (cellsN l)) := by rw [List.getElem?_map, hM]; rfl
  exact ainv_look rfl (by kernel_rfl) ((runK_other hK).trans (rbit_body (self := runK E Z K k) (nf := k + 1) hs hn hl hx hi (by omega))) rfl

theorem wide_args (w : Nat → Nat) (v : Int) : ([wide w, Value.int .i64 v] : List Value).all lit2 = true := by
  show (lit2 (wide w) && (lit2 (.int .i64 v) && true)) = true
  rw [wide_lit]
  rfl

theorem shift_call {v : Int} (hK : hasF K 63 = false) (hK' : hasF K 62 = false) (hK2 : hasF K 35 = false) (hv : -9223372036854775808 ≤ v) (hv' : v < 9223372036854775808) (hw : ∀ j, w j < 18446744073709551616) (hk : 1000 ≤ k) :
    ainv E (runK E Z K (k + 2)) 35 [wide w, .int .i64 v] M = some (wide (shW w v), M) := by
  obtain ⟨m1, h⟩ := shift_body (self := runK E Z K (k + 1)) (nf := k + 2) (w := w) (m := (M.take E.G).map onlyTab) hv hv' (fun j M' hj => by
    obtain ⟨m2, h2⟩ := up_body (self := runK E Z K k) (nf := k + 1) (m := (M'.take E.G).map onlyTab) hj hw (by omega)
    exact ainv_lit (wide_args _ _) (by kernel_rfl) ((runK_other hK).trans h2) (wide_lit _)) (fun j M' hj => by
    obtain ⟨m2, h2⟩ := dn_body (self := runK E Z K k) (nf := k + 1) (m := (M'.take E.G).map onlyTab) hj hw (by omega)
    exact ainv_lit (wide_args _ _) (by kernel_rfl) ((runK_other hK').trans h2) (wide_lit _))
  exact ainv_lit (wide_args _ _) (by kernel_rfl) ((runK_other hK2).trans h) (wide_lit _)

theorem bit_call {v : Int} (hK : hasF K 37 = false) (hw : ∀ j, w j < 18446744073709551616) :
    ainv E (runK E Z K (k + 1)) 37 [wide w, .int .i64 v] M = some (.int .u64 ((bitI w v : Nat) : Int), M) := by
  obtain ⟨m1, h⟩ := bit_body (self := runK E Z K k) (nf := k + 1) (m := (M.take E.G).map onlyTab) (i := v) hw
  exact ainv_lit (wide_args _ _) (by kernel_rfl) ((runK_other hK).trans h) rfl

/-- The document's bit is the number's. -/
theorem rbit_is (hw : ∀ j, w j < 18446744073709551616) (hn : TrimAt (natsOf (byS w)) n) (v : Int) : rbit (natsOf (byS w)) n v = bitI w v := by
  have hl : (natsOf (byS w)).length = 64 := by rw [natsOf_byS]; simp
  obtain ⟨h1, h2, _⟩ := hn
  have hg : ∀ t, t < 64 → (natsOf (byS w)).getD t 0 = byW w t := by
    intro t ht
    rw [natsOf_byS, List.getD_eq_getElem?_getD, List.getElem?_map, List.getElem?_range ht]
    rfl
  have hbit : ∀ i, i < 512 → byW w (i / 8) / 2 ^ (i % 8) % 2 = (bitW w i).toNat := by
    intro i hi
    unfold byW bitW
    rw [show (256 : Nat) = 2 ^ 8 from rfl]
    have e : (w (i / 8 / 8) / 2 ^ (8 * (i / 8 % 8)) % 2 ^ 8).testBit (i % 8) = (w (i / 64)).testBit (i % 64) := by
      rw [Nat.testBit_mod_two_pow, decide_eq_true (show i % 8 < 8 by omega), Bool.true_and, Nat.testBit_div_two_pow, show i / 8 / 8 = i / 64 by omega, show i % 8 + 8 * (i / 8 % 8) = i % 64 by omega]
    rw [← e, Nat.testBit_eq_decide_div_mod_eq]
    rcases Nat.mod_two_eq_zero_or_one (w (i / 8 / 8) / 2 ^ (8 * (i / 8 % 8)) % 2 ^ 8 / 2 ^ (i % 8)) with h | h <;> simp [h]
  unfold rbit bitI
  by_cases h0 : 0 ≤ v
  · obtain ⟨i, rfl⟩ := Int.eq_ofNat_of_zero_le h0
    by_cases h3 : i < 512
    · rw [if_pos (show (0 : Int) ≤ ((i : Nat) : Int) ∧ ((i : Nat) : Int) < 512 by omega), Int.toNat_natCast]
      by_cases h4 : i / 8 < n
      · rw [if_pos (by omega), hg _ (by omega), hbit i h3]
      · rw [if_neg (by omega)]
        have hz := h2 (i / 8) (by omega) (by omega)
        have : (natsOf (byS w)).getD (i / 8) 0 = 0 := by rw [List.getD_eq_getElem?_getD, hz]; rfl
        rw [hg _ (by omega)] at this
        rw [← hbit i h3, this]
        simp
    · rw [if_neg (by omega), if_neg (by omega)]
  · rw [if_neg (by omega), if_neg (by omega)]

/-- What a shift makes of a bit. -/
theorem shift_bit (hw : ∀ j, w j < 18446744073709551616) {v i : Int} (hi : 0 ≤ i) (hi' : i < 512) : bitI (shW w v) i = bitI w (i - v) := by
  obtain ⟨t, rfl⟩ := Int.eq_ofNat_of_zero_le hi
  have ht : t < 512 := by omega
  unfold shW
  by_cases h1 : 512 ≤ v ∨ v ≤ -512
  · rw [if_pos h1]
    unfold bitI bitW
    rw [if_pos (by omega), if_neg (by omega), Nat.zero_testBit]
    rfl
  · rw [if_neg h1]
    by_cases h2 : v < 0
    · rw [if_pos h2]
      obtain ⟨u, hu⟩ := Int.eq_ofNat_of_zero_le (show 0 ≤ -v by omega)
      have hv : v = -((u : Nat) : Int) := by omega
      subst hv
      rw [show (- -((u : Nat) : Int)).toNat = u by omega]
      unfold bitI
      rw [if_pos (by omega), Int.toNat_natCast, dn_bit hw (by omega) ht]
      by_cases h3 : t + u < 512
      · rw [decide_eq_true h3, Bool.true_and, if_pos (by omega)]
        rw [show (((t : Nat) : Int) - -((u : Nat) : Int)).toNat = t + u by omega]
      · rw [decide_eq_false h3, Bool.false_and, if_neg (by omega)]
        rfl
    · rw [if_neg h2]
      obtain ⟨u, rfl⟩ := Int.eq_ofNat_of_zero_le (show 0 ≤ v by omega)
      rw [Int.toNat_natCast]
      unfold bitI
      rw [if_pos (by omega), Int.toNat_natCast, up_bit hw (by omega) ht]
      by_cases h3 : u ≤ t
      · rw [decide_eq_true h3, Bool.true_and, if_pos (by omega)]
        rw [show (((t : Nat) : Int) - ((u : Nat) : Int)).toNat = t - u by omega]
      · rw [decide_eq_false h3, Bool.false_and, if_neg (by omega)]
        rfl

theorem shift_zero (hw : ∀ j, w j < 18446744073709551616) : shW w 0 = w := by
  funext a
  unfold shW
  rw [if_neg (by omega), if_neg (by omega)]
  unfold upW
  rw [show (0 : Int).toNat / 64 = 0 from rfl, show (0 : Int).toNat % 64 = 0 from rfl, if_neg (by omega), Nat.pow_zero, Nat.mul_one, Nat.sub_zero, Nat.mod_eq_of_lt (hw a)]
  by_cases h : 0 < a
  · rw [if_pos h, Nat.sub_zero, Nat.div_eq_of_lt (show w (a - 1) < 2 ^ 64 from hw _), Nat.or_zero]
  · rw [if_neg h]

theorem shift_lt (hw : ∀ j, w j < 18446744073709551616) (v : Int) : ∀ j, shW w v j < 18446744073709551616 := by
  intro j
  unfold shW
  split
  · show 0 < 18446744073709551616
    omega
  · split
    · exact dnW_lt hw _ _ _
    · exact upW_lt hw _ _ _
end
end Go.Am.Seat
