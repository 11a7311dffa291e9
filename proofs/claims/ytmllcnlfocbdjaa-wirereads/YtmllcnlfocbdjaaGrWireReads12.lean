/-
  Texts of my own, put together: M6, S1, A1, A2, A3, E1, E2, E3, A4, E4, E5, E6.
-/
import Derived.Test.YtmllcnlfocbdjaaGrWireReads10
import Derived.Test.YtmllcnlfocbdjaaGrWireReads11
/-
  LimbShifts on the abstract machine: calls (own work).
-/
set_option linter.unusedSimpArgs false
set_option linter.unusedVariables false
namespace Go.Am.Seat
open Go.Proofs Go.Am
set_option maxRecDepth 100000

theorem acoll_old {m m1 : Mem} {n b o k c : Nat} (hb : b < n) : acoll m n (.slice (some ⟨b, o, none⟩) k c) m1 = some (.slice (some ⟨b, o, none⟩) k c, m) := by
  unfold acoll
  rw [if_neg (by simp [lit2, lit1, lit0])]
  simp only [partsOf, idsL, idOf, addIds, hb, if_true, closeIds, List.foldl_nil, nodupB, List.all_nil, Bool.and_self, renB, ren3, ren2, ren1, rid, List.append_nil]

theorem idsL_lit {n : Nat} : ∀ (l : List Value) (acc : List Nat), l.all lit0 = true → idsL n l acc = acc
  | [], _, _ => rfl
  | v :: l, acc, h => by
    simp only [List.all_cons, Bool.and_eq_true] at h
    have hv : idOf n v = [] := by
      have h1 := h.1
      cases v with
      | pointer a => cases a with
        | none => rfl
        | some a => simp [lit0] at h1
      | slice a x y => cases a with
        | none => rfl
        | some a => simp [lit0] at h1
      | func fn a b => simp only [lit0] at h1; simp only [idOf, h1, if_true]
      | _ => rfl
    unfold idsL
    rw [hv]
    exact idsL_lit l acc h.2

theorem renL_id {n N : Nat} {keep : List Nat} : ∀ (l : List Value), l.all lit0 = true → renL n N keep l = some l
  | [], _ => rfl
  | v :: l, h => by
    simp only [List.all_cons, Bool.and_eq_true] at h
    have hv : ren1 n N keep v = some v := by
      have h1 := h.1
      cases v with
      | pointer a => cases a with
        | none => rfl
        | some a => simp [lit0] at h1
      | slice a x y => cases a with
        | none => rfl
        | some a => simp [lit0] at h1
      | func fn a b => simp only [lit0] at h1; simp only [ren1, h1, if_true]
      | _ => first | rfl | simp only [ren1, h1, if_true]
    unfold renL
    rw [hv, renL_id l h.2]

theorem acoll_new {m m1 : Mem} {n b o k c : Nat} {ro : Bool} {e : TypeId} {cs : List Value} (hb : n ≤ b) (hm : m1[b]? = some (.row ro e cs)) (hc : cs.all lit0 = true) :
    acoll m n (.slice (some ⟨b, o, none⟩) k c) m1 = some (.slice (some ⟨m.length, o, none⟩) k c, m ++ [.row ro e cs]) := by
  have hnb : ¬ b < n := by omega
  unfold acoll
  rw [if_neg (by simp [lit2, lit1, lit0])]
  have h1 : idsL n (partsOf (.slice (some ⟨b, o, none⟩) k c)) [] = [b] := by
    simp [partsOf, idsL, idOf, addIds, hnb]
  have h2 : closeIds n m1 2 [b] = [b] := by
    simp only [closeIds, List.foldl_cons, List.foldl_nil, hm, idsL_lit cs [b] hc]
  simp only [h1, h2]
  rw [if_pos (by simp [nodupB, hb])]
  have h3 : rid n m.length [b] b = some m.length := by
    unfold rid
    rw [if_neg hnb]
    simp [List.idxOf?]
  simp only [renB, hm, renL_id cs hc, ren3, ren2, ren1, h3]

theorem trimAt_unique {l : List Nat} {n n' : Nat} (h : TrimAt l n) (h' : TrimAt l n') : n = n' := by
  obtain ⟨a1, a2, a3⟩ := h
  obtain ⟨b1, b2, b3⟩ := h'
  rcases Nat.lt_trichotomy n n' with hlt | he | hlt
  · rcases b3 with h0 | ⟨x, hx, hg⟩
    · omega
    · have := a2 (n' - 1) (by omega) (by omega)
      rw [hg] at this
      cases this
      omega
  · exact he
  · rcases a3 with h0 | ⟨x, hx, hg⟩
    · omega
    · have := b2 (n - 1) (by omega) (by omega)
      rw [hg] at this
      cases this
      omega

theorem cellsN_lit (l : List Nat) : (cellsN l).all lit0 = true := by
  unfold cellsN
  rw [List.all_map, List.all_eq_true]
  intro x _
  rfl

section
variable {K : List Fact} {k n b : Nat} {M : Mem} {l : List Nat} {w : Nat → Nat} {Z : Mem}

/-- A call that only looks. -/
theorem ainv_look {self : Self} {g : FuncId} {args : List Value} {m m1 : Mem} {v : Value} (ha : args.all lit2 = false) (hw : E.wr g = false) (h : self g args (m.map sealed) = some (v, m1)) (hv : lit2 v = true) : ainv E self g args m = some (v, m) := by
  unfold ainv
  rw [ha, hw]
  simp only [Bool.false_eq_true, if_false, h]
  unfold acoll
  rw [if_pos hv]

/-- The document's number of eight words. -/
theorem byS_list (w : Nat → Nat) : (byS w).data.toList.length = 64 := by
  unfold byS
  rw [bytesOfL_list, List.length_map, byL_length]
theorem byW_lt (w : Nat → Nat) (t : Nat) : byW w t < 256 := Nat.mod_lt _ (by omega)
theorem natsOf_byS (w : Nat → Nat) : natsOf (byS w) = (List.range 64).map (byW w) := by
  unfold natsOf byS byL
  rw [bytesOfL_list, List.map_map, List.map_map]
  apply List.map_congr_left
  intro t _
  show (UInt8.ofNat (((byW w t : Nat) : Int)).toNat).toNat = byW w t
  rw [Int.toNat_natCast, UInt8.toNat_ofNat']
  exact Nat.mod_eq_of_lt (byW_lt w t)

theorem wide_args (w : Nat → Nat) (v : Int) : ([wide w, Value.int .i64 v] : List Value).all lit2 = true := by
  show (lit2 (wide w) && (lit2 (.int .i64 v) && true)) = true
  rw [wide_lit]
  rfl

/-- The document's bit is the number's. -/
theorem rbit_is (hw : ∀ j, w j < 18446744073709551616) (hn : TrimAt (natsOf (byS w)) n) (v : Int) : rbit (natsOf (byS w)) n v = bitI w v := by
  have hl : (natsOf (byS w)).length = 64 := by rw [natsOf_byS]; simp
  obtain ⟨h1, h2, _⟩ := hn
  have hg : ∀ t, t < 64 → (natsOf (byS w)).getD t 0 = byW w t := by
    intro t ht
    rw [natsOf_byS, List.getD_eq_getElem?_getD, List.getElem?_map, List.getElem?_range ht]
    rfl
  have hbit : ∀ i, i < 512 → byW w (i / 8) / 2 ^ (i % 8) % 2 = (bitW w i).toNat := by
    intro i hi
    unfold byW bitW
    rw [show (256 : Nat) = 2 ^ 8 from rfl]
    have e : (w (i / 8 / 8) / 2 ^ (8 * (i / 8 % 8)) % 2 ^ 8).testBit (i % 8) = (w (i / 64)).testBit (i % 64) := by
      rw [Nat.testBit_mod_two_pow, decide_eq_true (show i % 8 < 8 by omega), Bool.true_and, Nat.testBit_div_two_pow, show i / 8 / 8 = i / 64 by omega, show i % 8 + 8 * (i / 8 % 8) = i % 64 by omega]
    rw [← e, Nat.testBit_eq_decide_div_mod_eq]
    rcases Nat.mod_two_eq_zero_or_one (w (i / 8 / 8) / 2 ^ (8 * (i / 8 % 8)) % 2 ^ 8 / 2 ^ (i % 8)) with h | h <;> simp [h]
  unfold rbit bitI
  by_cases h0 : 0 ≤ v
  · obtain ⟨i, rfl⟩ := Int.eq_ofNat_of_zero_le h0
    by_cases h3 : i < 512
    · rw [if_pos (show (0 : Int) ≤ ((i : Nat) : Int) ∧ ((i : Nat) : Int) < 512 by omega), Int.toNat_natCast]
      by_cases h4 : i / 8 < n
      · rw [if_pos (by omega), hg _ (by omega), hbit i h3]
      · rw [if_neg (by omega)]
        have hz := h2 (i / 8) (by omega) (by omega)
        have : (natsOf (byS w)).getD (i / 8) 0 = 0 := by rw [List.getD_eq_getElem?_getD, hz]; rfl
        rw [hg _ (by omega)] at this
        rw [← hbit i h3, this]
        simp
    · rw [if_neg (by omega), if_neg (by omega)]
  · rw [if_neg (by omega), if_neg (by omega)]

/-- What a shift makes of a bit. -/
theorem shift_bit (hw : ∀ j, w j < 18446744073709551616) {v i : Int} (hi : 0 ≤ i) (hi' : i < 512) : bitI (shW w v) i = bitI w (i - v) := by
  obtain ⟨t, rfl⟩ := Int.eq_ofNat_of_zero_le hi
  have ht : t < 512 := by omega
  unfold shW
  by_cases h1 : 512 ≤ v ∨ v ≤ -512
  · rw [if_pos h1]
    unfold bitI bitW
    rw [if_pos (by omega), if_neg (by omega), Nat.zero_testBit]
    rfl
  · rw [if_neg h1]
    by_cases h2 : v < 0
    · rw [if_pos h2]
      obtain ⟨u, hu⟩ := Int.eq_ofNat_of_zero_le (show 0 ≤ -v by omega)
      have hv : v = -((u : Nat) : Int) := by omega
      subst hv
      rw [show (- -((u : Nat) : Int)).toNat = u by omega]
      unfold bitI
      rw [if_pos (by omega), Int.toNat_natCast, dn_bit hw (by omega) ht]
      by_cases h3 : t + u < 512
      · rw [decide_eq_true h3, Bool.true_and, if_pos (by omega)]
        rw [show (((t : Nat) : Int) - -((u : Nat) : Int)).toNat = t + u by omega]
      · rw [decide_eq_false h3, Bool.false_and, if_neg (by omega)]
        rfl
    · rw [if_neg h2]
      obtain ⟨u, rfl⟩ := Int.eq_ofNat_of_zero_le (show 0 ≤ v by omega)
      rw [Int.toNat_natCast]
      unfold bitI
      rw [if_pos (by omega), Int.toNat_natCast, up_bit hw (by omega) ht]
      by_cases h3 : u ≤ t
      · rw [decide_eq_true h3, Bool.true_and, if_pos (by omega)]
        rw [show (((t : Nat) : Int) - ((u : Nat) : Int)).toNat = t - u by omega]
      · rw [decide_eq_false h3, Bool.false_and, if_neg (by omega)]
        rfl

theorem shift_zero (hw : ∀ j, w j < 18446744073709551616) : shW w 0 = w := by
  funext a
  unfold shW
  rw [if_neg (by omega), if_neg (by omega)]
  unfold upW
  rw [show (0 : Int).toNat / 64 = 0 from rfl, show (0 : Int).toNat % 64 = 0 from rfl, if_neg (by omega), Nat.pow_zero, Nat.mul_one, Nat.sub_zero, Nat.mod_eq_of_lt (hw a)]
  by_cases h : 0 < a
  · rw [if_pos h, Nat.sub_zero, Nat.div_eq_of_lt (show w (a - 1) < 2 ^ 64 from hw _), Nat.or_zero]
  · rw [if_neg h]

theorem shift_lt (hw : ∀ j, w j < 18446744073709551616) (v : Int) : ∀ j, shW w v j < 18446744073709551616 := by
  intro j
  unfold shW
  split
  · show 0 < 18446744073709551616
    omega
  · split
    · exact dnW_lt hw _ _ _
    · exact upW_lt hw _ _ _
end
end Go.Am.Seat

/-
  Arrays of numbers, and the turns of SHA-512, on the abstract machine (own work).
-/
set_option linter.unusedSimpArgs false
set_option linter.unusedVariables false
namespace Go.Am.Seat
open Go.Proofs Go.Am
set_option maxRecDepth 100000

-- ntmps 9
-- ntmps 17
-- ntmps 122
-- ntmps 71

/-- So many numbers of a kind. -/
def rowK (k : IntKind) (n : Nat) (w : Nat → Nat) : List Value := (List.range n).map fun j => .int k ((w j : Nat) : Int)
def arrK (k : IntKind) (n : Nat) (w : Nat → Nat) : Value := .agg ⟨rowK k n w⟩
theorem rowK_length (k : IntKind) (n : Nat) (w : Nat → Nat) : (rowK k n w).length = n := by simp [rowK]
theorem rowK_get {k : IntKind} {n : Nat} {w : Nat → Nat} {j : Nat} (h : j < n) : (rowK k n w)[j]? = some (.int k ((w j : Nat) : Int)) := by
  unfold rowK
  rw [List.getElem?_map, List.getElem?_range h]
  rfl
theorem rowK_set {k : IntKind} {n : Nat} {w : Nat → Nat} {i x : Nat} : (rowK k n w).set i (.int k ((x : Nat) : Int)) = rowK k n (fun j => if j = i then x else w j) := by
  apply List.ext_getElem?
  intro q
  rw [List.getElem?_set]
  by_cases hk : q < n
  · rw [rowK_get hk, rowK_get hk, rowK_length]
    by_cases h : i = q
    · subst h; simp [hk]
    · have h' : ¬ q = i := fun e => h e.symm
      simp [h, h']
  · rw [List.getElem?_eq_none (by rw [rowK_length]; omega), List.getElem?_eq_none (by rw [rowK_length]; omega), rowK_length]
    by_cases h : i = q
    · subst h; simp [hk]
    · simp [h]
theorem rowK_lit (k : IntKind) (n : Nat) (w : Nat → Nat) : (rowK k n w).all lit0 = true := by
  unfold rowK
  rw [List.all_map, List.all_eq_true]
  intro x _
  rfl
theorem rowK_ok (k : IntKind) (n : Nat) (w : Nat → Nat) : (rowK k n w).all cellOk = true := by
  unfold rowK
  rw [List.all_map, List.all_eq_true]
  intro x _
  rfl
theorem arrK_lit (k : IntKind) (n : Nat) (w : Nat → Nat) : lit2 (arrK k n w) = true := rowK_lit k n w
theorem rowK_ext {k : IntKind} {n : Nat} {w w' : Nat → Nat} (h : ∀ j, j < n → w j = w' j) : rowK k n w = rowK k n w' := by
  unfold rowK
  apply List.map_congr_left
  intro j hj
  rw [h j (List.mem_range.1 hj)]

/-- An array's type. -/
structure ArrT (t : TypeId) (n : Nat) (e : TypeId) (k : IntKind) : Prop where
  und : E.P.underlying t = some (.array n e)
  unde : E.P.underlying e = some (.int k)
  info : ∃ i, E.P.info? t = some i ∧ i.size = n
  infoe : ∃ i, E.P.info? e = some i ∧ i.size = 1

section
variable {t e : TypeId} {n : Nat} {k : IntKind} {m : Mem} {p j x : Nat} {w : Nat → Nat} {ro : Bool} {be : TypeId} {cs : List Value}

theorem ArrT.box (h : ArrT t n e k) : abox E.P t (arrK k n w) m = some (.pointer (some ⟨m.length, 0, none⟩), m ++ [.row false t (rowK k n w)]) := by
  obtain ⟨i, h1, _⟩ := h.info
  unfold abox arrK
  simp only [h1, vcells, rowK_ok, if_true]
theorem ArrT.load (h : ArrT t n e k) (hm : m[p]? = some (.row ro be (rowK k n w))) : aload E.P t (.pointer (some ⟨p, 0, none⟩)) m = some (arrK k n w) := by
  obtain ⟨i, h1, h2⟩ := h.info
  unfold aload
  simp only [lookRow hm, h.und, aggD, h1, h2]
  rw [if_pos (by rw [rowK_length]; omega), List.drop_zero, List.take_of_length_le (by rw [rowK_length]; omega)]
  rfl
theorem ArrT.store (h : ArrT t n e k) (hn : n ≠ 1) (hm : m[p]? = some (.row false be cs)) (hl : cs.length = n) : astore E.P t (.pointer (some ⟨p, 0, none⟩)) (arrK k n w) m = some (m.set p (.row false be (rowK k n w))) := by
  obtain ⟨i, h1, h2⟩ := h.info
  unfold astore arrK
  simp only [hm, vcells, rowK_ok, if_true, h1, h2]
  rw [if_pos ⟨rowK_length k n w, by rw [rowK_length]; omega⟩]
  congr 2
  have : lay cs 0 (rowK k n w) = rowK k n w := by
    unfold lay
    split
    · rename_i v hv
      have := congrArg List.length hv
      rw [rowK_length] at this
      simp at this
      omega
    · rw [List.take_zero, List.nil_append, List.drop_of_length_le (by rw [rowK_length]; omega), List.append_nil]
  rw [this]
theorem ArrT.ix (h : ArrT t n e k) (hj : j < n) : aindexAddr E.P t (.pointer (some ⟨p, 0, none⟩)) (.int .i64 (j : Nat)) = some (.pointer (some ⟨p, j, none⟩)) := by
  obtain ⟨i, h1, h2⟩ := h.infoe
  unfold aindexAddr
  simp only [h.und, h1, h2]
  rw [if_pos (by omega)]
  simp
theorem ArrT.loadE (h : ArrT t n e k) (b o : Nat) (m : Mem) : aload E.P e (.pointer (some ⟨b, o, none⟩)) m = cellAt m b o := aload_cell h.unde rfl b o m
theorem ArrT.storeE (h : ArrT t n e k) (hm : m[p]? = some (.row false be (rowK k n w))) (hj : j < n) : astore E.P e (.pointer (some ⟨p, j, none⟩)) (.int k ((x : Nat) : Int)) m = some (m.set p (.row false be (rowK k n (fun q => if q = j then x else w q)))) := by
  obtain ⟨i, h1, h2⟩ := h.infoe
  rw [astore_cell h1 h2 hm (by rw [rowK_length]; exact hj) rfl, rowK_set]
end

theorem info_of {t : TypeId} {n : Nat} (h : (E.P.info? t).map (·.size) = some n) : ∃ i, E.P.info? t = some i ∧ i.size = n := Option.map_eq_some_iff.1 h
/-- A word turned to the right. -/
def rotrW (x n : Nat) : Nat := (x * 2 ^ (64 - n) % 18446744073709551616) ||| (x / 2 ^ n)
theorem rotrW_lt {x n : Nat} (hx : x < 18446744073709551616) : rotrW x n < 18446744073709551616 := Nat.or_lt_two_pow (n := 64) (Nat.mod_lt _ (by omega)) (div_lt64 hx)

theorem andU (a b : Int) : abin .and .u64 a .u64 b = some (.int .u64 (wrapF .u64 ((((a % 18446744073709551616).toNat &&& (b % 18446744073709551616).toNat : Nat)) : Int))) := by kernel_rfl
theorem subU (a b : Int) : abin .sub .u64 a .u64 b = some (.int .u64 (wrapF .u64 (a - b))) := by kernel_rfl
theorem shlU {x n : Nat} (hn : n ≤ 64) : abin .shl .u64 ((x : Nat) : Int) .u64 ((n : Nat) : Int) = some (.int .u64 ((x * 2 ^ n % 18446744073709551616 : Nat) : Int)) := by
  unfold abin
  simp only
  rw [if_neg (by omega), Int.toNat_natCast, show IntKind.u64.bits = 64 from rfl, Nat.min_eq_left hn]
  simp only [wrapF]
  congr 2
theorem shrU {x n : Nat} (hn : n ≤ 64) : abin .shr .u64 ((x : Nat) : Int) .u64 ((n : Nat) : Int) = some (.int .u64 ((x / 2 ^ n : Nat) : Int)) := by
  unfold abin
  simp only
  rw [if_neg (by omega), Int.toNat_natCast, show IntKind.u64.bits = 64 from rfl, Nat.min_eq_left hn, Int.fdiv_eq_ediv_of_nonneg _ (by exact Int.natCast_nonneg _)]
  congr 2

section
variable {self : Self} {nf : Nat} {m : Mem} {x n : Nat}

end
end Go.Am.Seat

/-
  Primes: Fermat's theorem and Pocklington's criterion, out of whole numbers alone (own work; nothing of a dump).
-/
set_option linter.unusedSimpArgs false
set_option linter.unusedVariables false
namespace Go.Am.Num

def IsPrime (p : Nat) : Prop := 2 ≤ p ∧ ∀ d, d ∣ p → d = 1 ∨ d = p

theorem IsPrime.coprime {p a : Nat} (hp : IsPrime p) (h : ¬ p ∣ a) : Nat.Coprime p a := by
  rcases hp.2 _ (Nat.gcd_dvd_left p a) with h1 | h1
  · exact h1
  · exact absurd (h1 ▸ Nat.gcd_dvd_right p a) h

theorem IsPrime.dvd_mul {p a b : Nat} (hp : IsPrime p) (h : p ∣ a * b) : p ∣ a ∨ p ∣ b := by
  by_cases ha : p ∣ a
  · exact .inl ha
  · exact .inr ((hp.coprime ha).dvd_of_dvd_mul_left h)

theorem exists_prime {n : Nat} (h : 2 ≤ n) : ∃ r, IsPrime r ∧ r ∣ n := by
  induction n using Nat.strongRecOn with
  | ind n ih =>
    by_cases hd : ∃ d, d ∣ n ∧ d ≠ 1 ∧ d ≠ n
    · obtain ⟨d, h1, h2, h3⟩ := hd
      have hle := Nat.le_of_dvd (by omega) h1
      have h0 : d ≠ 0 := by
        intro e
        subst e
        have := Nat.eq_zero_of_zero_dvd h1
        omega
      obtain ⟨r, hr, hrd⟩ := ih d (by omega) (by omega)
      exact ⟨r, hr, Nat.dvd_trans hrd h1⟩
    · refine ⟨n, ⟨h, fun d h1 => ?_⟩, Nat.dvd_refl n⟩
      by_cases e : d = 1
      · exact .inl e
      · by_cases e2 : d = n
        · exact .inr e2
        · exact absurd ⟨d, h1, e, e2⟩ hd

def sumTo (f : Nat → Nat) : Nat → Nat
  | 0 => f 0
  | n + 1 => sumTo f n + f (n + 1)

def B : Nat → Nat → Nat
  | _, 0 => 1
  | 0, _ + 1 => 0
  | n + 1, k + 1 => B n k + B n (k + 1)

theorem B_zero (n : Nat) : B n 0 = 1 := by cases n <;> rfl
theorem B_over {n : Nat} : ∀ {k : Nat}, n < k → B n k = 0 := by
  induction n with
  | zero => intro k h; match k, h with | k + 1, _ => rfl
  | succ n ih =>
    intro k h
    match k, h with
    | k + 1, h => simp only [B]; rw [ih (by omega), ih (by omega)]
theorem B_self (n : Nat) : B n n = 1 := by
  induction n with
  | zero => rfl
  | succ n ih => simp only [B]; rw [ih, B_over (by omega)]

theorem sumTo_add (f g : Nat → Nat) (n : Nat) : sumTo f n + sumTo g n = sumTo (fun k => f k + g k) n := by
  induction n with
  | zero => rfl
  | succ n ih => simp only [sumTo]; omega
theorem sumTo_mul (f : Nat → Nat) (a n : Nat) : sumTo f n * a = sumTo (fun k => f k * a) n := by
  induction n with
  | zero => rfl
  | succ n ih => simp only [sumTo]; rw [Nat.add_mul, ih]
theorem sumTo_congr {f g : Nat → Nat} {n : Nat} (h : ∀ k, k ≤ n → f k = g k) : sumTo f n = sumTo g n := by
  induction n with
  | zero => exact h 0 (by omega)
  | succ n ih => simp only [sumTo]; rw [ih (fun k hk => h k (by omega)), h (n + 1) (by omega)]
theorem sumTo_first (f : Nat → Nat) (n : Nat) : sumTo f (n + 1) = f 0 + sumTo (fun k => f (k + 1)) n := by
  induction n with
  | zero => rfl
  | succ n ih =>
    have h1 : sumTo f (n + 1 + 1) = sumTo f (n + 1) + f (n + 1 + 1) := rfl
    have h2 : sumTo (fun k => f (k + 1)) (n + 1) = sumTo (fun k => f (k + 1)) n + f (n + 1 + 1) := rfl
    rw [h1, h2, ih]
    omega

theorem expand (a n : Nat) : (a + 1) ^ n = sumTo (fun k => B n k * a ^ k) n := by
  induction n with
  | zero => rfl
  | succ n ih =>
    have h1 : sumTo (fun k => B (n + 1) k * a ^ k) (n + 1) = 1 + sumTo (fun k => B n k * a ^ (k + 1) + B n (k + 1) * a ^ (k + 1)) n := by
      rw [sumTo_first]
      simp only [B_zero, Nat.pow_zero, Nat.mul_one]
      congr 1
      exact sumTo_congr fun k _ => by simp only [B]; rw [Nat.add_mul]
    have h2 : sumTo (fun k => B n k * a ^ k) (n + 1) = 1 + sumTo (fun k => B n (k + 1) * a ^ (k + 1)) n := by
      rw [sumTo_first]
      simp only [B_zero, Nat.pow_zero, Nat.mul_one]
    have h3 : sumTo (fun k => B n k * a ^ k) (n + 1) = sumTo (fun k => B n k * a ^ k) n := by
      simp only [sumTo]
      rw [B_over (by omega : n < n + 1)]
      omega
    rw [h1, ← sumTo_add, Nat.pow_succ, ih, Nat.mul_add, Nat.mul_one, sumTo_mul]
    have h4 : sumTo (fun k => B n k * a ^ k * a) n = sumTo (fun k => B n k * a ^ (k + 1)) n := sumTo_congr fun k _ => by rw [Nat.pow_succ, Nat.mul_assoc]
    rw [h4]
    omega

theorem mul_B (n : Nat) : ∀ k, (k + 1) * B (n + 1) (k + 1) = (n + 1) * B n k := by
  induction n with
  | zero =>
    intro k
    match k with
    | 0 => rfl
    | k + 1 => simp [B]
  | succ n ih =>
    intro k
    have h1 : B (n + 1 + 1) (k + 1) = B (n + 1) k + B (n + 1) (k + 1) := rfl
    rw [h1, Nat.mul_add, ih k]
    match k with
    | 0 => simp only [B_zero]; omega
    | k + 1 =>
      have h2 : (k + 1 + 1) * B (n + 1) (k + 1) = (k + 1) * B (n + 1) (k + 1) + B (n + 1) (k + 1) := by rw [Nat.add_mul (k + 1) 1, Nat.one_mul]
      rw [h2, ih k]
      have h3 : B (n + 1) (k + 1) = B n k + B n (k + 1) := rfl
      have h4 : (n + 1 + 1) * B (n + 1) (k + 1) = (n + 1) * B (n + 1) (k + 1) + B (n + 1) (k + 1) := by rw [Nat.add_mul (n + 1) 1, Nat.one_mul]
      rw [h4]
      have h5 : (n + 1) * B (n + 1) (k + 1) = (n + 1) * B n k + (n + 1) * B n (k + 1) := by rw [h3, Nat.mul_add]
      rw [h5]
      omega

theorem dvd_B {p k : Nat} (hp : IsPrime p) (h1 : 0 < k) (h2 : k < p) : p ∣ B p k := by
  obtain ⟨k, rfl⟩ : ∃ j, k = j + 1 := ⟨k - 1, by omega⟩
  obtain ⟨n, rfl⟩ : ∃ j, p = j + 1 := ⟨p - 1, by omega⟩
  have h : (n + 1) ∣ (k + 1) * B (n + 1) (k + 1) := ⟨B n k, mul_B n k⟩
  rcases hp.dvd_mul h with h | h
  · have := Nat.le_of_dvd (by omega) h; omega
  · exact h

theorem sumTo_mod {p : Nat} {f : Nat → Nat} {n : Nat} (h : ∀ k, 0 < k → k ≤ n → p ∣ f k) : sumTo f n % p = f 0 % p := by
  induction n with
  | zero => rfl
  | succ n ih =>
    simp only [sumTo]
    rw [Nat.add_mod, ih (fun k h1 h2 => h k h1 (by omega)), Nat.mod_eq_zero_of_dvd (h (n + 1) (by omega) (by omega)), Nat.add_zero, Nat.mod_mod]

theorem fermat0 {p : Nat} (hp : IsPrime p) (a : Nat) : a ^ p % p = a % p := by
  have h2 := hp.1
  induction a with
  | zero => rw [Nat.zero_pow (by omega)]
  | succ a ih =>
    rw [expand]
    obtain ⟨n, hn⟩ : ∃ n, p = n + 1 := ⟨p - 1, by omega⟩
    have h1 : sumTo (fun k => B p k * a ^ k) p = sumTo (fun k => B p k * a ^ k) n + a ^ p := by
      have : sumTo (fun k => B p k * a ^ k) (n + 1) = sumTo (fun k => B p k * a ^ k) n + B p (n + 1) * a ^ (n + 1) := rfl
      rw [← hn, B_self, Nat.one_mul] at this
      exact this
    rw [h1, Nat.add_mod, ih, sumTo_mod (fun k h3 h4 => Nat.dvd_trans (dvd_B hp h3 (by omega)) ⟨a ^ k, rfl⟩)]
    simp only [B_zero, Nat.pow_zero, Nat.mul_one]
    rw [← Nat.add_mod, Nat.add_comm]

theorem dvd_sub_of_mod {p x y : Nat} (h : x % p = y % p) (hle : y ≤ x) : p ∣ x - y := by
  have h1 := Nat.mod_add_div x p
  have h2 := Nat.mod_add_div y p
  rw [h] at h1
  refine ⟨x / p - y / p, ?_⟩
  rw [Nat.mul_sub]
  omega

theorem mod_of_dvd_sub {p x y : Nat} (h : p ∣ x - y) (hle : y ≤ x) : x % p = y % p := by
  obtain ⟨c, hc⟩ := h
  have : x = y + p * c := by omega
  rw [this, Nat.add_mul_mod_self_left]

theorem fermat {p : Nat} (hp : IsPrime p) {a : Nat} (ha : ¬ p ∣ a) : a ^ (p - 1) % p = 1 := by
  have h2 := hp.1
  have ha0 : 0 < a := by
    rcases Nat.eq_zero_or_pos a with h | h
    · exact absurd (h ▸ Nat.dvd_zero p) ha
    · exact h
  have h1 := fermat0 hp a
  have hpow : a ^ p = a * a ^ (p - 1) := by
    obtain ⟨n, hn⟩ : ∃ n, p = n + 1 := ⟨p - 1, by omega⟩
    rw [hn, Nat.add_sub_cancel, Nat.pow_succ, Nat.mul_comm]
  have hpos : 0 < a ^ (p - 1) := Nat.pow_pos ha0
  have hle : a ≤ a ^ p := by rw [hpow]; exact Nat.le_mul_of_pos_right a hpos
  have hd := dvd_sub_of_mod h1 hle
  have he : a ^ p - a = a * (a ^ (p - 1) - 1) := by rw [hpow, Nat.mul_sub, Nat.mul_one]
  rw [he] at hd
  rcases hp.dvd_mul hd with h | h
  · exact absurd h ha
  · rw [mod_of_dvd_sub h (by omega), Nat.mod_eq_of_lt (by omega)]

theorem pow_gcd {a r : Nat} (hr : 1 < r) (m n : Nat) : a ^ m % r = 1 → a ^ n % r = 1 → a ^ (Nat.gcd m n) % r = 1 := by
  induction m, n using Nat.gcd.induction with
  | H0 n => intro _ h; rw [Nat.gcd_zero_left]; exact h
  | H1 m n hm ih =>
    intro h1 h2
    rw [Nat.gcd_rec]
    refine ih ?_ h1
    have h3 : a ^ n = (a ^ m) ^ (n / m) * a ^ (n % m) := by
      rw [← Nat.pow_mul, ← Nat.pow_add]
      congr 1
      exact (Nat.div_add_mod n m).symm
    have h4 : (a ^ m) ^ (n / m) % r = 1 := by rw [Nat.pow_mod, h1, Nat.one_pow, Nat.mod_eq_of_lt hr]
    rw [h3, Nat.mul_mod, h4, Nat.one_mul, Nat.mod_mod] at h2
    exact h2

/-- Pocklington: a prime q of N - 1 goes into r - 1 for each prime r of N. -/
theorem pock {N q a : Nat} (hN : 2 ≤ N) (hq : IsPrime q) (hd : q ∣ N - 1) (h1 : a ^ (N - 1) % N = 1) (h2 : Nat.gcd (a ^ ((N - 1) / q) % N + (N - 1)) N = 1) {r : Nat} (hr : IsPrime r) (hrN : r ∣ N) : q ∣ r - 1 := by
  apply Classical.byContradiction
  intro hn
  have hr2 := hr.1
  have e1 : a ^ (N - 1) % r = 1 := by
    rw [← Nat.mod_mod_of_dvd _ hrN, h1, Nat.mod_eq_of_lt (by omega)]
  have hra : ¬ r ∣ a := by
    intro h
    obtain ⟨M, hM⟩ : ∃ M, N - 1 = M + 1 := ⟨N - 2, by omega⟩
    rw [hM, Nat.pow_succ, Nat.mul_mod, Nat.mod_eq_zero_of_dvd h, Nat.mul_zero, Nat.zero_mod] at e1
    omega
  have e2 := fermat hr hra
  have e3 := pow_gcd (by omega) _ _ e1 e2
  have hg1 := Nat.gcd_dvd_left (N - 1) (r - 1)
  have hg2 := Nat.gcd_dvd_right (N - 1) (r - 1)
  have hqg : ¬ q ∣ Nat.gcd (N - 1) (r - 1) := fun h => hn (Nat.dvd_trans h hg2)
  have hc := (hq.coprime hqg).symm
  have hM : N - 1 = q * ((N - 1) / q) := (Nat.mul_div_cancel' hd).symm
  have hg3 : Nat.gcd (N - 1) (r - 1) ∣ (N - 1) / q := hc.dvd_of_dvd_mul_left (by rw [← hM]; exact hg1)
  obtain ⟨c, hcc⟩ := hg3
  have e4 : a ^ ((N - 1) / q) % r = 1 := by rw [hcc, Nat.pow_mul, Nat.pow_mod, e3, Nat.one_pow, Nat.mod_eq_of_lt (by omega)]
  have e5 : (a ^ ((N - 1) / q) % N + (N - 1)) % r = 0 := by
    rw [Nat.add_mod, Nat.mod_mod_of_dvd _ hrN, e4]
    have : (1 + (N - 1) % r) % r = (1 % r + (N - 1) % r) % r := by rw [Nat.mod_eq_of_lt (by omega : 1 < r)]
    rw [this, ← Nat.add_mod, show 1 + (N - 1) = N by omega]
    exact Nat.mod_eq_zero_of_dvd hrN
  have := Nat.dvd_gcd (Nat.dvd_of_mod_eq_zero e5) hrN
  rw [h2] at this
  have := Nat.le_of_dvd (by omega) this
  omega

theorem prime_of_big {N F : Nat} (hN : 2 ≤ N) (hb : N < (F + 1) * (F + 1)) (h : ∀ r, IsPrime r → r ∣ N → F ∣ r - 1) : IsPrime N := by
  have hge : ∀ d, 2 ≤ d → d ∣ N → F + 1 ≤ d := fun d hd hdN => by
    obtain ⟨r, hr, hrd⟩ := exists_prime hd
    have h1 := h r hr (Nat.dvd_trans hrd hdN)
    have h2 := hr.1
    have h3 := Nat.le_of_dvd (by omega) h1
    have h4 := Nat.le_of_dvd (by omega) hrd
    omega
  refine ⟨hN, fun d hd => ?_⟩
  obtain ⟨e, he⟩ := hd
  by_cases h1 : d = 1
  · exact .inl h1
  · right
    have hd0 : d ≠ 0 := by intro h0; subst h0; omega
    by_cases h2 : e = 1
    · subst h2; omega
    · have he0 : e ≠ 0 := by intro h0; subst h0; omega
      have g1 := hge d (by omega) ⟨e, he⟩
      have g2 := hge e (by omega) ⟨d, by rw [he, Nat.mul_comm]⟩
      have := Nat.mul_le_mul g1 g2
      omega

/-- A power, reckoned modulo N. -/
def pm (N b : Nat) : Nat → Nat → Nat
  | 0, _ => 1 % N
  | f + 1, e => cond (Nat.beq e 0) (1 % N) (cond (Nat.beq (e % 2) 1) ((pm N b f (e / 2)) ^ 2 % N * b % N) ((pm N b f (e / 2)) ^ 2 % N))

theorem pm_eq (N b : Nat) : ∀ f e, e < 2 ^ f → pm N b f e = b ^ e % N := by
  intro f
  induction f with
  | zero => intro e h; have : e = 0 := by simpa using h
            subst this; rfl
  | succ f ih =>
    intro e h
    simp only [pm]
    have h1 : e / 2 < 2 ^ f := by rw [Nat.pow_succ] at h; omega
    rw [ih _ h1]
    cases h0 : Nat.beq e 0 with
    | true => have := Nat.eq_of_beq_eq_true h0; subst this; rfl
    | false =>
      have hsq : (b ^ (e / 2) % N) ^ 2 % N = b ^ (2 * (e / 2)) % N := by rw [← Nat.pow_mod, ← Nat.pow_mul, Nat.mul_comm]
      cases h2 : Nat.beq (e % 2) 1 with
      | true =>
        have h3 := Nat.eq_of_beq_eq_true h2
        simp only [cond_false, cond_true]
        rw [hsq, Nat.mod_mul_mod, ← Nat.pow_succ]
        congr 2
        omega
      | false =>
        have h3 : e % 2 ≠ 1 := Nat.ne_of_beq_eq_false h2
        simp only [cond_false]
        rw [hsq]
        congr 2
        omega

theorem pock1 {N q a f : Nat} (hN : 2 ≤ N) (hq : IsPrime q) (hd : (N - 1) % q = 0) (hf : N < 2 ^ f) (h1 : pm N a f (N - 1) = 1) (h2 : Nat.gcd (pm N a f ((N - 1) / q) + (N - 1)) N = 1) {r : Nat} (hr : IsPrime r) (hrN : r ∣ N) : q ∣ r - 1 := by
  rw [pm_eq _ _ _ _ (by omega)] at h1
  rw [pm_eq _ _ _ _ (Nat.lt_of_le_of_lt (Nat.div_le_self _ _) (by omega))] at h2
  exact pock hN hq (Nat.dvd_of_mod_eq_zero hd) h1 h2 hr hrN

theorem two_dvd {q1 q2 n : Nat} (h1 : IsPrime q1) (h2 : IsPrime q2) (hlt : q2 < q1) (d1 : q1 ∣ n) (d2 : q2 ∣ n) : q1 * q2 ∣ n := by
  have hc : Nat.Coprime q1 q2 := h1.coprime fun h => by
    have := Nat.le_of_dvd (by have := h2.1; omega) h
    omega
  exact hc.mul_dvd_of_dvd_of_dvd d1 d2

/-- No number from d on, f of them, goes into n. -/
def trial (n : Nat) : Nat → Nat → Bool
  | 0, _ => true
  | f + 1, d => cond (Nat.beq (n % d) 0) false (trial n f (d + 1))
theorem trial_ok {n : Nat} : ∀ {f d : Nat}, trial n f d = true → ∀ e, d ≤ e → e < d + f → n % e ≠ 0 := by
  intro f
  induction f with
  | zero => intro d _ e h1 h2; omega
  | succ f ih =>
    intro d h e h1 h2
    simp only [trial] at h
    cases h0 : Nat.beq (n % d) 0 with
    | true => rw [h0] at h; cases h
    | false =>
      rw [h0] at h
      by_cases he : e = d
      · subst he; exact Nat.ne_of_beq_eq_false h0
      · exact ih h e (by omega) (by omega)
theorem prime_of_trial {n f : Nat} (hn : 2 ≤ n) (hf : n < (f + 2) * (f + 2)) (h : trial n f 2 = true) : IsPrime n := by
  have hge : ∀ d, 2 ≤ d → d ∣ n → f + 2 ≤ d := fun d hd hdn => by
    by_cases hl : d < 2 + f
    · exact absurd (Nat.mod_eq_zero_of_dvd hdn) (trial_ok h d hd hl)
    · omega
  refine ⟨hn, fun d hd => ?_⟩
  obtain ⟨e, he⟩ := hd
  by_cases h1 : d = 1
  · exact .inl h1
  · right
    have hd0 : d ≠ 0 := by intro h0; subst h0; omega
    by_cases h2 : e = 1
    · subst h2; omega
    · have he0 : e ≠ 0 := by intro h0; subst h0; omega
      have g1 := hge d (by omega) ⟨e, he⟩
      have g2 := hge e (by omega) ⟨d, by rw [he, Nat.mul_comm]⟩
      have := Nat.mul_le_mul g1 g2
      omega

end Go.Am.Num

/-
  2^255 - 19 is a prime (own work; nothing of a dump).
-/
set_option linter.unusedSimpArgs false
set_option linter.unusedVariables false
namespace Go.Am.Num

theorem prime_8574133 : IsPrime 8574133 := prime_of_trial (f := 3000) (by decide) (by decide) (by decide +kernel)
theorem prime_127 : IsPrime 127 := prime_of_trial (f := 20) (by decide) (by decide) (by decide +kernel)
theorem prime_569003 : IsPrime 569003 := prime_of_trial (f := 800) (by decide) (by decide) (by decide +kernel)
theorem prime_430751 : IsPrime 430751 := prime_of_trial (f := 800) (by decide) (by decide) (by decide +kernel)
theorem prime_4153 : IsPrime 4153 := prime_of_trial (f := 80) (by decide) (by decide) (by decide +kernel)

theorem prime_c : IsPrime 2773320623 := prime_of_big (F := 569003) (by decide) (by decide) fun r hr hrN =>
  pock1 (a := 2) (f := 40) (by decide) prime_569003 (by decide) (by decide) (by decide +kernel) (by decide +kernel) hr hrN
theorem prime_d : IsPrime 72106336199 := prime_of_big (F := 2773320623) (by decide) (by decide) fun r hr hrN =>
  pock1 (a := 2) (f := 40) (by decide) prime_c (by decide) (by decide) (by decide +kernel) (by decide +kernel) hr hrN
theorem prime_e : IsPrime 1919519569386763 := prime_of_big (F := 8574133 * 127) (by decide) (by decide) fun r hr hrN =>
  two_dvd prime_8574133 prime_127 (by decide)
    (pock1 (a := 2) (f := 60) (by decide) prime_8574133 (by decide) (by decide) (by decide +kernel) (by decide +kernel) hr hrN)
    (pock1 (a := 2) (f := 60) (by decide) prime_127 (by decide) (by decide) (by decide +kernel) (by decide +kernel) hr hrN)
theorem prime_f : IsPrime 31757755568855353 := prime_of_big (F := 430751 * 4153) (by decide) (by decide) fun r hr hrN =>
  two_dvd prime_430751 prime_4153 (by decide)
    (pock1 (a := 2) (f := 60) (by decide) prime_430751 (by decide) (by decide) (by decide +kernel) (by decide +kernel) hr hrN)
    (pock1 (a := 2) (f := 60) (by decide) prime_4153 (by decide) (by decide) (by decide +kernel) (by decide +kernel) hr hrN)
theorem prime_g : IsPrime 75445702479781427272750846543864801 := prime_of_big (F := 1919519569386763 * 72106336199) (by decide) (by decide) fun r hr hrN =>
  two_dvd prime_e prime_d (by decide)
    (pock1 (a := 2) (f := 120) (by decide) prime_e (by decide) (by decide) (by decide +kernel) (by decide +kernel) hr hrN)
    (pock1 (a := 2) (f := 120) (by decide) prime_d (by decide) (by decide) (by decide +kernel) (by decide +kernel) hr hrN)
theorem prime_h : IsPrime 74058212732561358302231226437062788676166966415465897661863160754340907 := prime_of_big (F := 75445702479781427272750846543864801 * 31757755568855353) (by decide) (by decide) fun r hr hrN =>
  two_dvd prime_g prime_f (by decide)
    (pock1 (a := 2) (f := 240) (by decide) prime_g (by decide) (by decide) (by decide +kernel) (by decide +kernel) hr hrN)
    (pock1 (a := 2) (f := 240) (by decide) prime_f (by decide) (by decide) (by decide +kernel) (by decide +kernel) hr hrN)
/-- The field's prime. -/
theorem prime_p : IsPrime 57896044618658097711785492504343953926634992332820282019728792003956564819949 := prime_of_big (F := 74058212732561358302231226437062788676166966415465897661863160754340907) (by decide) (by decide) fun r hr hrN =>
  pock1 (a := 2) (f := 255) (by decide) prime_h (by decide) (by decide) (by decide +kernel) (by decide +kernel) hr hrN

end Go.Am.Num

/-
  Words of 64 bits, and numbers modulo 2^255 - 19, in whole numbers alone (own work; nothing of a dump).
-/
set_option linter.unusedSimpArgs false
set_option linter.unusedVariables false
namespace Go.Am.Num
set_option maxHeartbeats 4000000

/-- The k-th word of a number. -/
def wd (k V : Nat) : Nat := V / 18446744073709551616 ^ k % 18446744073709551616
theorem wd_lt (k V : Nat) : wd k V < 18446744073709551616 := Nat.mod_lt _ (by decide)
theorem wd_0 (V : Nat) : wd 0 V = V % 18446744073709551616 := by simp [wd]
theorem wd_1 (V : Nat) : wd 1 V = V / 18446744073709551616 % 18446744073709551616 := by simp [wd]
theorem wd_2 (V : Nat) : wd 2 V = V / 340282366920938463463374607431768211456 % 18446744073709551616 := rfl
theorem wd_3 (V : Nat) : wd 3 V = V / 6277101735386680763835789423207666416102355444464034512896 % 18446744073709551616 := rfl
theorem wd_4 (V : Nat) : wd 4 V = V / 115792089237316195423570985008687907853269984665640564039457584007913129639936 % 18446744073709551616 := rfl

def v4 (a b c d : Nat) : Nat := a + b * 18446744073709551616 + c * 340282366920938463463374607431768211456 + d * 6277101735386680763835789423207666416102355444464034512896

theorem wd_v4 {a b c d : Nat} (ha : a < 18446744073709551616) (hb : b < 18446744073709551616) (hc : c < 18446744073709551616) (hd : d < 18446744073709551616) :
    wd 0 (v4 a b c d) = a ∧ wd 1 (v4 a b c d) = b ∧ wd 2 (v4 a b c d) = c ∧ wd 3 (v4 a b c d) = d := by
  simp only [wd_0, wd_1, wd_2, wd_3, v4]
  omega
theorem v4_wd {V : Nat} (h : V < 115792089237316195423570985008687907853269984665640564039457584007913129639936) : v4 (wd 0 V) (wd 1 V) (wd 2 V) (wd 3 V) = V := by
  simp only [wd_0, wd_1, wd_2, wd_3, v4]
  omega

theorem plus_ok (V n : Nat) :
    (wd 0 V + n) % 18446744073709551616 = wd 0 (V + n) ∧ (wd 1 V + (wd 0 V + n) / 18446744073709551616) % 18446744073709551616 = wd 1 (V + n) ∧
    (wd 2 V + (wd 1 V + (wd 0 V + n) / 18446744073709551616) / 18446744073709551616) % 18446744073709551616 = wd 2 (V + n) ∧
    (wd 3 V + (wd 2 V + (wd 1 V + (wd 0 V + n) / 18446744073709551616) / 18446744073709551616) / 18446744073709551616) % 18446744073709551616 = wd 3 (V + n) := by
  simp only [wd_0, wd_1, wd_2, wd_3]
  omega

/-- What settle reckons. -/
theorem settle_ok {V S R : Nat} {a b c d more : Nat} (ha : a < 18446744073709551616) (hb : b < 18446744073709551616) (hc : c < 18446744073709551616) (hd : d < 18446744073709551616) (hm : more < 4294967296)
    (hV : V = v4 a b c d + more * 115792089237316195423570985008687907853269984665640564039457584007913129639936)
    (hS : S = v4 a b c (d % 9223372036854775808) + 19 * (2 * more + d / 9223372036854775808))
    (hR : R = S + 19 * (wd 3 (S + 19) / 9223372036854775808)) :
    wd 0 R = wd 0 (V % 57896044618658097711785492504343953926634992332820282019728792003956564819949) ∧ wd 1 R = wd 1 (V % 57896044618658097711785492504343953926634992332820282019728792003956564819949) ∧
    wd 2 R = wd 2 (V % 57896044618658097711785492504343953926634992332820282019728792003956564819949) ∧ wd 3 R % 9223372036854775808 = wd 3 (V % 57896044618658097711785492504343953926634992332820282019728792003956564819949) := by
  have hSV : V % 57896044618658097711785492504343953926634992332820282019728792003956564819949 = S % 57896044618658097711785492504343953926634992332820282019728792003956564819949 := by
    have : V = S + (2 * more + d / 9223372036854775808) * 57896044618658097711785492504343953926634992332820282019728792003956564819949 := by
      simp only [hV, hS, v4]
      omega
    rw [this, Nat.add_mul_mod_self_right]
  have hSb : S < 57896044618658097711785492504343953926634992332820282019728792003956564819968 + 274877906944 := by
    simp only [hS, v4]
    omega
  rw [hSV]
  clear hSV hV hS
  by_cases ht : S + 19 < 57896044618658097711785492504343953926634992332820282019728792003956564819968
  · have h1 : wd 3 (S + 19) / 9223372036854775808 = 0 := by rw [wd_3]; omega
    have h2 : S % 57896044618658097711785492504343953926634992332820282019728792003956564819949 = S := Nat.mod_eq_of_lt (by omega)
    rw [h1] at hR
    rw [h2, hR]
    simp only [wd_0, wd_1, wd_2, wd_3]
    omega
  · have h1 : wd 3 (S + 19) / 9223372036854775808 = 1 := by rw [wd_3]; omega
    have h2 : S % 57896044618658097711785492504343953926634992332820282019728792003956564819949 = S - 57896044618658097711785492504343953926634992332820282019728792003956564819949 := by omega
    rw [h1] at hR
    rw [h2, hR]
    simp only [wd_0, wd_1, wd_2, wd_3]
    omega

/-- What Mul64 reckons. -/
theorem mul64_ok {x y : Nat} (hx : x < 18446744073709551616) (hy : y < 18446744073709551616) {x0 x1 y0 y1 w0 t w1 w2 w3 hi : Nat}
    (e1 : x0 = x % 4294967296) (e2 : x1 = x / 4294967296) (e3 : y0 = y % 4294967296) (e4 : y1 = y / 4294967296) (e5 : w0 = x0 * y0 % 18446744073709551616) (e6 : t = (x1 * y0 % 18446744073709551616 + w0 / 4294967296) % 18446744073709551616)
    (e7 : w1 = t % 4294967296) (e8 : w2 = t / 4294967296) (e9 : w3 = (w1 + x0 * y1 % 18446744073709551616) % 18446744073709551616)
    (e10 : hi = ((x1 * y1 % 18446744073709551616 + w2) % 18446744073709551616 + w3 / 4294967296) % 18446744073709551616) : hi = x * y / 18446744073709551616 := by
  have hx0 : x0 < 4294967296 := by omega
  have hx1 : x1 < 4294967296 := by omega
  have hy0 : y0 < 4294967296 := by omega
  have hy1 : y1 < 4294967296 := by omega
  have b1 : x0 * y0 ≤ 4294967295 * 4294967295 := Nat.mul_le_mul (by omega) (by omega)
  have b2 : x1 * y0 ≤ 4294967295 * 4294967295 := Nat.mul_le_mul (by omega) (by omega)
  have b3 : x0 * y1 ≤ 4294967295 * 4294967295 := Nat.mul_le_mul (by omega) (by omega)
  have b4 : x1 * y1 ≤ 4294967295 * 4294967295 := Nat.mul_le_mul (by omega) (by omega)
  have hxx : x = x1 * 4294967296 + x0 := by omega
  have hyy : y = y1 * 4294967296 + y0 := by omega
  have hp : x * y = x1 * y1 * 18446744073709551616 + (x1 * y0 + x0 * y1) * 4294967296 + x0 * y0 := by
    rw [hxx, hyy, Nat.add_mul, Nat.mul_add, Nat.mul_add]
    have k1 : x1 * 4294967296 * (y1 * 4294967296) = x1 * y1 * 18446744073709551616 := by
      rw [Nat.mul_mul_mul_comm]
    have k2 : x1 * 4294967296 * y0 = x1 * y0 * 4294967296 := by rw [Nat.mul_right_comm]
    have k3 : x0 * (y1 * 4294967296) = x0 * y1 * 4294967296 := by rw [Nat.mul_assoc]
    rw [k1, k2, k3]
    omega
  rw [hp]
  clear hp hxx hyy e1 e2 e3 e4
  generalize x0 * y0 = p00 at *
  generalize x1 * y0 = p10 at *
  generalize x0 * y1 = p01 at *
  generalize x1 * y1 = p11 at *
  omega

theorem hi_lt {x n : Nat} (hx : x < 18446744073709551616) (hn : n < 18446744073709551616) : x * n / 18446744073709551616 ≤ 18446744073709551614 := by
  have : x * n ≤ 18446744073709551615 * 18446744073709551615 := Nat.mul_le_mul (by omega) (by omega)
  omega

theorem dm (x : Nat) : ∃ q r, x / 18446744073709551616 = q ∧ x % 18446744073709551616 = r ∧ x = q * 18446744073709551616 + r ∧ r < 18446744073709551616 := ⟨_, _, rfl, rfl, by omega, by omega⟩

theorem digits5 {V m1 m2 m3 m4 e : Nat} (hV : V = m1 + m2 * 18446744073709551616 + m3 * 340282366920938463463374607431768211456 + m4 * 6277101735386680763835789423207666416102355444464034512896 + e * 115792089237316195423570985008687907853269984665640564039457584007913129639936)
    (h1 : m1 < 18446744073709551616) (h2 : m2 < 18446744073709551616) (h3 : m3 < 18446744073709551616) (h4 : m4 < 18446744073709551616) (h5 : e < 18446744073709551616) :
    m1 = wd 0 V ∧ m2 = wd 1 V ∧ m3 = wd 2 V ∧ m4 = wd 3 V ∧ e = wd 4 V ∧ e = V / 115792089237316195423570985008687907853269984665640564039457584007913129639936 := by
  simp only [wd_0, wd_1, wd_2, wd_3, wd_4]
  omega

theorem stage1 {p0 p1 p2 p3 h0 h1 h2 h3 l0 l1 l2 l3 c1 c2 c3 r1 r2 r3 : Nat} (e0 : p0 = h0 * 18446744073709551616 + l0) (e1 : p1 = h1 * 18446744073709551616 + l1) (e2 : p2 = h2 * 18446744073709551616 + l2) (e3 : p3 = h3 * 18446744073709551616 + l3)
    (f1 : l1 + h0 = c1 * 18446744073709551616 + r1) (f2 : l2 + h1 + c1 = c2 * 18446744073709551616 + r2) (f3 : l3 + h2 + c2 = c3 * 18446744073709551616 + r3) :
    p0 + p1 * 18446744073709551616 + p2 * 340282366920938463463374607431768211456 + p3 * 6277101735386680763835789423207666416102355444464034512896 = l0 + r1 * 18446744073709551616 + r2 * 340282366920938463463374607431768211456 + r3 * 6277101735386680763835789423207666416102355444464034512896 + (h3 + c3) * 115792089237316195423570985008687907853269984665640564039457584007913129639936 := by
  omega

theorem stage2 {a b c d l0 r1 r2 r3 H d1 d2 d3 d4 m1 m2 m3 m4 : Nat} (f1 : a + l0 = d1 * 18446744073709551616 + m1) (f2 : b + r1 + d1 = d2 * 18446744073709551616 + m2) (f3 : c + r2 + d2 = d3 * 18446744073709551616 + m3) (f4 : d + r3 + d3 = d4 * 18446744073709551616 + m4) :
    l0 + r1 * 18446744073709551616 + r2 * 340282366920938463463374607431768211456 + r3 * 6277101735386680763835789423207666416102355444464034512896 + H * 115792089237316195423570985008687907853269984665640564039457584007913129639936 + v4 a b c d =
      m1 + m2 * 18446744073709551616 + m3 * 340282366920938463463374607431768211456 + m4 * 6277101735386680763835789423207666416102355444464034512896 + (H + d4) * 115792089237316195423570985008687907853269984665640564039457584007913129639936 := by
  unfold v4
  omega

theorem carry_le {x y c q r : Nat} (hx : x < 18446744073709551616) (hy : y < 18446744073709551616) (hc : c ≤ 1) (h : x + y + c = q * 18446744073709551616 + r) (hr : r < 18446744073709551616) : q ≤ 1 := by omega

/-- What times reckons: x n, and four words more. -/
theorem times_ok {x0 x1 x2 x3 n a b c d : Nat} (h0 : x0 < 18446744073709551616) (h1 : x1 < 18446744073709551616) (h2 : x2 < 18446744073709551616) (h3 : x3 < 18446744073709551616) (hn : n < 18446744073709551616)
    (ha : a < 18446744073709551616) (hb : b < 18446744073709551616) (hc : c < 18446744073709551616) (hd : d < 18446744073709551616)
    {s1 s2 s3 H k1 k2 k3 k4 e V : Nat}
    (e1 : s1 = x1 * n % 18446744073709551616 + x0 * n / 18446744073709551616)
    (e2 : s2 = x2 * n % 18446744073709551616 + x1 * n / 18446744073709551616 + s1 / 18446744073709551616)
    (e3 : s3 = x3 * n % 18446744073709551616 + x2 * n / 18446744073709551616 + s2 / 18446744073709551616)
    (e4 : H = (x3 * n / 18446744073709551616 + s3 / 18446744073709551616) % 18446744073709551616)
    (f1 : k1 = a + x0 * n % 18446744073709551616)
    (f2 : k2 = b + s1 % 18446744073709551616 + k1 / 18446744073709551616)
    (f3 : k3 = c + s2 % 18446744073709551616 + k2 / 18446744073709551616)
    (f4 : k4 = d + s3 % 18446744073709551616 + k3 / 18446744073709551616)
    (f5 : e = (H + k4 / 18446744073709551616) % 18446744073709551616)
    (hV : V = v4 x0 x1 x2 x3 * n + v4 a b c d) :
    (s1 / 18446744073709551616 ≤ 1 ∧ s2 / 18446744073709551616 ≤ 1 ∧ k1 / 18446744073709551616 ≤ 1 ∧ k2 / 18446744073709551616 ≤ 1 ∧ k3 / 18446744073709551616 ≤ 1) ∧
    k1 % 18446744073709551616 = wd 0 V ∧ k2 % 18446744073709551616 = wd 1 V ∧ k3 % 18446744073709551616 = wd 2 V ∧ k4 % 18446744073709551616 = wd 3 V ∧ e = wd 4 V ∧ e = V / 115792089237316195423570985008687907853269984665640564039457584007913129639936 := by
  have b0 := hi_lt h0 hn
  have b1 := hi_lt h1 hn
  have b2 := hi_lt h2 hn
  have b3 := hi_lt h3 hn
  have hX : v4 x0 x1 x2 x3 * n = x0 * n + x1 * n * 18446744073709551616 + x2 * n * 340282366920938463463374607431768211456 + x3 * n * 6277101735386680763835789423207666416102355444464034512896 := by
    unfold v4
    rw [Nat.add_mul, Nat.add_mul, Nat.add_mul, Nat.mul_right_comm x1, Nat.mul_right_comm x2, Nat.mul_right_comm x3]
  have hbig : v4 x0 x1 x2 x3 * n ≤ 115792089237316195423570985008687907853269984665640564039457584007913129639935 * 18446744073709551615 := Nat.mul_le_mul (by unfold v4; omega) (by omega)
  generalize v4 x0 x1 x2 x3 * n = X at *
  generalize x0 * n = p0 at *
  generalize x1 * n = p1 at *
  generalize x2 * n = p2 at *
  generalize x3 * n = p3 at *
  obtain ⟨g0, l0, A0, C0, q3, q4⟩ := dm p0
  obtain ⟨g1, l1, A1, C1, q5, q6⟩ := dm p1
  obtain ⟨g2, l2, A2, C2, q7, q8⟩ := dm p2
  obtain ⟨g3, l3, A3, C3, q9, q10⟩ := dm p3
  obtain ⟨c1, r1, A4, C4, u3, u4⟩ := dm s1
  obtain ⟨c2, r2, A5, C5, u5, u6⟩ := dm s2
  obtain ⟨c3, r3, A6, C6, u7, u8⟩ := dm s3
  obtain ⟨d1, m1, A7, C7, u9, u10⟩ := dm k1
  obtain ⟨d2, m2, A8, C8, u11, u12⟩ := dm k2
  obtain ⟨d3, m3, A9, C9, u13, u14⟩ := dm k3
  obtain ⟨d4, m4, A10, C10, u15, u16⟩ := dm k4
  rw [A0] at b0
  rw [A1] at b1
  rw [A2] at b2
  rw [A3] at b3
  rw [C1, A0] at e1
  rw [C2, A1, A4] at e2
  rw [C3, A2, A5] at e3
  rw [A3, A6] at e4
  rw [C0] at f1
  rw [C4, A7] at f2
  rw [C5, A8] at f3
  rw [C6, A9] at f4
  rw [A10] at f5
  rw [A4, A5, A7, A8, A9, C7, C8, C9, C10]
  have i1 : l1 + g0 = c1 * 18446744073709551616 + r1 := e1.symm.trans u3
  have i2 : l2 + g1 + c1 = c2 * 18446744073709551616 + r2 := e2.symm.trans u5
  have i3 : l3 + g2 + c2 = c3 * 18446744073709551616 + r3 := e3.symm.trans u7
  have j1 : a + l0 = d1 * 18446744073709551616 + m1 := f1.symm.trans u9
  have j2 : b + r1 + d1 = d2 * 18446744073709551616 + m2 := f2.symm.trans u11
  have j3 : c + r2 + d2 = d3 * 18446744073709551616 + m3 := f3.symm.trans u13
  have j4 : d + r3 + d3 = d4 * 18446744073709551616 + m4 := f4.symm.trans u15
  have w1 : c1 ≤ 1 := carry_le (c := 0) q6 (by omega) (by omega) i1 u4
  have w2 : c2 ≤ 1 := carry_le q8 (by omega) w1 i2 u6
  have w3 : c3 ≤ 1 := carry_le q10 (by omega) w2 i3 u8
  have w4 : d1 ≤ 1 := carry_le (c := 0) ha q4 (by omega) j1 u10
  have w5 : d2 ≤ 1 := carry_le hb u4 w4 j2 u12
  have w6 : d3 ≤ 1 := carry_le hc u6 w5 j3 u14
  have w7 : d4 ≤ 1 := carry_le hd u8 w6 j4 u16
  have t1 := stage1 q3 q5 q7 q9 i1 i2 i3
  rw [← hX] at t1
  have hH : H = g3 + c3 := by rw [e4]; exact Nat.mod_eq_of_lt (by omega)
  have hHb : H ≤ 18446744073709551614 := by
    clear e1 e2 e3 e4 f1 f2 f3 f4 f5 u3 u5 u7 u9 u11 u13 u15 i1 i2 i3 j1 j2 j3 j4 q3 q5 q7 q9 hX hV
    omega
  have hee : e = H + d4 := by rw [f5]; exact Nat.mod_eq_of_lt (by omega)
  have t2 := stage2 (H := H) j1 j2 j3 j4
  rw [hH] at t2
  rw [← t1] at t2
  have := digits5 (hV.trans t2) u10 u12 u14 u16 (by omega)
  rw [hee, hH]
  exact ⟨⟨w1, w2, w4, w5, w6⟩, this⟩

end Go.Am.Num

/-
  Mul64, plus and settle on the abstract machine (own work).
-/
set_option linter.unusedSimpArgs false
set_option linter.unusedVariables false
namespace Go.Am.Seat
open Go.Proofs Go.Am Go.Am.Num
set_option maxRecDepth 100000
set_option maxHeartbeats 4000000

-- ntmps 51
-- ntmps 39
-- ntmps 61

/-- A call that leads nowhere, and whose answer doesn't either. -/
def Ans (self : Self) (f : FuncId) (args : List Value) (v : Value) : Prop := ∀ M : Mem, ainv E self f args M = some (v, M)

theorem wrapU (x : Nat) : wrapF .u64 ((x : Nat) : Int) = ((x % 18446744073709551616 : Nat) : Int) := by simp only [wrapF]; omega
theorem addN (x y : Nat) : abin .add .u64 ((x : Nat) : Int) .u64 ((y : Nat) : Int) = some (.int .u64 (((x + y) % 18446744073709551616 : Nat) : Int)) := by
  have : abin .add .u64 ((x : Nat) : Int) .u64 ((y : Nat) : Int) = some (.int .u64 (wrapF .u64 (((x : Nat) : Int) + ((y : Nat) : Int)))) := by kernel_rfl
  rw [this, ← Int.natCast_add, wrapU]
theorem mulN (x y : Nat) : abin .mul .u64 ((x : Nat) : Int) .u64 ((y : Nat) : Int) = some (.int .u64 (((x * y) % 18446744073709551616 : Nat) : Int)) := by
  have : abin .mul .u64 ((x : Nat) : Int) .u64 ((y : Nat) : Int) = some (.int .u64 (wrapF .u64 (((x : Nat) : Int) * ((y : Nat) : Int)))) := by kernel_rfl
  rw [this, ← Int.natCast_mul, wrapU]
theorem mul19 (y : Nat) : abin .mul .u64 19 .u64 ((y : Nat) : Int) = some (.int .u64 (((19 * y) % 18446744073709551616 : Nat) : Int)) := mulN 19 y
theorem shr32 (x : Nat) : abin .shr .u64 ((x : Nat) : Int) .u64 32 = some (.int .u64 ((x / 4294967296 : Nat) : Int)) := shrU (n := 32) (by decide)
theorem shr63 (x : Nat) : abin .shr .u64 ((x : Nat) : Int) .u64 63 = some (.int .u64 ((x / 9223372036854775808 : Nat) : Int)) := shrU (n := 63) (by decide)
theorem shl1 (x : Nat) : abin .shl .u64 ((x : Nat) : Int) .u64 1 = some (.int .u64 ((x * 2 % 18446744073709551616 : Nat) : Int)) := shlU (n := 1) (by decide)
theorem and_mask {x k : Nat} (hk : k ≤ 64) (hx : x < 18446744073709551616) : abin .and .u64 ((x : Nat) : Int) .u64 (((2 ^ k - 1 : Nat)) : Int) = some (.int .u64 ((x % 2 ^ k : Nat) : Int)) := by
  have hb : 2 ^ k ≤ 2 ^ 64 := Nat.pow_le_pow_right (by decide) hk
  have hpos : 0 < 2 ^ k := Nat.pow_pos (by decide)
  have e1 : (((x : Nat) : Int) % 18446744073709551616).toNat = x := by omega
  have e2 : ((((2 ^ k - 1 : Nat)) : Int) % 18446744073709551616).toNat = 2 ^ k - 1 := by
    generalize 2 ^ k = q at *
    omega
  rw [andU, e1, e2, Nat.and_two_pow_sub_one_eq_mod, wrapU, Nat.mod_eq_of_lt (Nat.lt_of_le_of_lt (Nat.mod_le _ _) hx)]
theorem and32 {x : Nat} (hx : x < 18446744073709551616) : abin .and .u64 ((x : Nat) : Int) .u64 4294967295 = some (.int .u64 ((x % 4294967296 : Nat) : Int)) := and_mask (k := 32) (by decide) hx
theorem and63 {x : Nat} (hx : x < 18446744073709551616) : abin .and .u64 ((x : Nat) : Int) .u64 9223372036854775807 = some (.int .u64 ((x % 9223372036854775808 : Nat) : Int)) := and_mask (k := 63) (by decide) hx

section
variable {self : Self} {nf : Nat} {m : Mem} {x y : Nat}
end
end Go.Am.Seat

/-
  plus and settle on the abstract machine; elements (own work).
-/
set_option linter.unusedSimpArgs false
set_option linter.unusedVariables false
namespace Go.Am.Seat
open Go.Proofs Go.Am Go.Am.Num
set_option maxRecDepth 100000
set_option maxHeartbeats 4000000

def tup4 (a b c d : Nat) : Value := .tuple ⟨[.int .u64 (a : Nat), .int .u64 (b : Nat), .int .u64 (c : Nat), .int .u64 (d : Nat)]⟩
def c4 (a b c d : Nat) : List Value := [.int .u64 (a : Nat), .int .u64 (b : Nat), .int .u64 (c : Nat), .int .u64 (d : Nat)]
def st4 (a b c d : Nat) : Value := .agg ⟨c4 a b c d⟩
/-- An element: a number's four words. -/
def el (V : Nat) : Value := st4 (wd 0 V) (wd 1 V) (wd 2 V) (wd 3 V)

theorem add64C (x y c : Nat) (m : Mem) : aext .add64 [.int .u64 (x : Nat), .int .u64 (y : Nat), .int .u64 (c : Nat)] m = if c ≤ 1 then some (pair64 ((x + y + c) % 18446744073709551616) ((x + y + c) / 18446744073709551616), m) else none := by
  simp only [aext, Int.toNat_natCast]
theorem add64O (x y : Nat) (m : Mem) : aext .add64 [.int .u64 (x : Nat), .int .u64 (y : Nat), .int .u64 0] m = some (pair64 ((x + y) % 18446744073709551616) ((x + y) / 18446744073709551616), m) := by
  rw [show (0 : Int) = ((0 : Nat) : Int) from rfl, add64C, if_pos (by decide)]
  rfl
theorem add64Z (x c : Nat) (m : Mem) : aext .add64 [.int .u64 (x : Nat), .int .u64 0, .int .u64 (c : Nat)] m = if c ≤ 1 then some (pair64 ((x + c) % 18446744073709551616) ((x + c) / 18446744073709551616), m) else none := by
  rw [show (0 : Int) = ((0 : Nat) : Int) from rfl, add64C]
  rfl
theorem ex0 (a b : Nat) : aextract (pair64 a b) 0 = some (.int .u64 ((a : Nat) : Int)) := rfl
theorem ex1 (a b : Nat) : aextract (pair64 a b) 1 = some (.int .u64 ((b : Nat) : Int)) := rfl
theorem ex40 (a b c d : Nat) : aextract (tup4 a b c d) 0 = some (.int .u64 ((a : Nat) : Int)) := rfl
theorem ex41 (a b c d : Nat) : aextract (tup4 a b c d) 1 = some (.int .u64 ((b : Nat) : Int)) := rfl
theorem ex42 (a b c d : Nat) : aextract (tup4 a b c d) 2 = some (.int .u64 ((c : Nat) : Int)) := rfl
theorem ex43 (a b c d : Nat) : aextract (tup4 a b c d) 3 = some (.int .u64 ((d : Nat) : Int)) := rfl

theorem cell4 {m : Mem} {p : Nat} {ro : Bool} {a b c d : Nat} {e : TypeId} (h : m[p]? = some (.row ro e (c4 a b c d))) :
    cellAt m p 0 = some (.int .u64 ((a : Nat) : Int)) ∧ cellAt m p 1 = some (.int .u64 ((b : Nat) : Int)) ∧ cellAt m p 2 = some (.int .u64 ((c : Nat) : Int)) ∧ cellAt m p 3 = some (.int .u64 ((d : Nat) : Int)) := by
  unfold cellAt
  rw [look_row h]
  exact ⟨rfl, rfl, rfl, rfl⟩

noncomputable def apB4 (P : Program) (t ty : TypeId) (a b c d : Value) : Option Value := apure P [a, b, c, d] { dst := none, op := .build t #[(0, .tmp 0), (1, .tmp 1), (2, .tmp 2), (3, .tmp 3)], type := ty, pos := "", after := #[], guard := none }
theorem apure_build4 {P : Program} {T : List Value} {t ty : TypeId} {a b c d : Nat} {pos : String} {af : Array Edge} {gu : Option (Nat × Bool)} {dd : Option Tmp} :
    apure P T { dst := dd, op := .build t #[(0, .tmp a), (1, .tmp b), (2, .tmp c), (3, .tmp d)], type := ty, pos := pos, after := af, guard := gu } = apB4 P t ty (nth T a) (nth T b) (nth T c) (nth T d) := by
  unfold apB4 apure
  simp [Op.operands, execOp, ev, nth_zero, nth_succ]
/-- A call's answer, whatever the memory, by its body. -/
theorem ans_of {self : Self} {f : FuncId} {args : List Value} {v : Value} (ha : args.all lit2 = true) (hf : E.fast f = none) (hv : lit2 v = true) (h : ∀ m, ∃ m', self f args m = some (v, m')) : Ans self f args v := by
  intro M
  obtain ⟨m', h'⟩ := h ((M.take E.G).map onlyTab)
  exact ainv_lit ha hf h' hv

section
variable {self : Self} {nf : Nat} {m : Mem} {V n a b c d more : Nat}
theorem or2 {x y : Nat} (hx : x < 4294967296) (hy : y ≤ 1) : abin .or .u64 ((x * 2 % 18446744073709551616 : Nat) : Int) .u64 ((y : Nat) : Int) = some (.int .u64 ((2 * x + y : Nat) : Int)) := by
  rw [orN (by omega) (by omega), Nat.mod_eq_of_lt (by omega), Nat.mul_comm x 2]
  have := Nat.two_pow_add_eq_or_of_lt (i := 1) (b := y) (by omega) x
  rw [show 2 ^ 1 = 2 from rfl] at this
  rw [← this]

/-- The number modulo p. -/
def P25519 : Nat := 57896044618658097711785492504343953926634992332820282019728792003956564819949

end
end Go.Am.Seat

/-
  times on the abstract machine (own work).
-/
set_option linter.unusedSimpArgs false
set_option linter.unusedVariables false
namespace Go.Am.Seat
open Go.Proofs Go.Am Go.Am.Num
set_option maxRecDepth 100000
set_option maxHeartbeats 4000000

-- ntmps 111
-- ntmps 86

def tup5 (a b c d e : Nat) : Value := .tuple ⟨[.int .u64 (a : Nat), .int .u64 (b : Nat), .int .u64 (c : Nat), .int .u64 (d : Nat), .int .u64 (e : Nat)]⟩
theorem ex50 (a b c d e : Nat) : aextract (tup5 a b c d e) 0 = some (.int .u64 ((a : Nat) : Int)) := rfl
theorem ex51 (a b c d e : Nat) : aextract (tup5 a b c d e) 1 = some (.int .u64 ((b : Nat) : Int)) := rfl
theorem ex52 (a b c d e : Nat) : aextract (tup5 a b c d e) 2 = some (.int .u64 ((c : Nat) : Int)) := rfl
theorem ex53 (a b c d e : Nat) : aextract (tup5 a b c d e) 3 = some (.int .u64 ((d : Nat) : Int)) := rfl
theorem ex54 (a b c d e : Nat) : aextract (tup5 a b c d e) 4 = some (.int .u64 ((e : Nat) : Int)) := rfl
section
variable {self : Self} {nf : Nat} {m : Mem} {x0 x1 x2 x3 n a b c d : Nat}
end
end Go.Am.Seat

/-
  A product of two numbers of four words, word by word, in whole numbers alone (own work; nothing of a dump).
-/
set_option linter.unusedSimpArgs false
set_option linter.unusedVariables false
namespace Go.Am.Num
set_option maxHeartbeats 4000000

theorem wd_add (i k S : Nat) : wd (i + k) S = wd k (S / 18446744073709551616 ^ i) := by
  unfold wd
  rw [Nat.pow_add, Nat.div_div_eq_div_mul]
theorem wd_big {k V : Nat} (h : V < 18446744073709551616 ^ k) : wd k V = 0 := by
  unfold wd
  rw [Nat.div_eq_of_lt h]
theorem wd_low {i j : Nat} (h : j < i) (S c : Nat) : wd j (S + c * 18446744073709551616 ^ i) = wd j S := by
  unfold wd
  obtain ⟨d, rfl⟩ : ∃ d, i = j + (d + 1) := ⟨i - j - 1, by omega⟩
  rw [Nat.pow_add, ← Nat.mul_assoc, Nat.mul_right_comm, Nat.add_mul_div_right _ _ (Nat.pow_pos (by decide)), Nat.pow_succ, ← Nat.mul_assoc, Nat.add_mul_mod_self_right]

theorem round_ok {X n S V S' i : Nat} (hX : X < 115792089237316195423570985008687907853269984665640564039457584007913129639936) (hn : n < 18446744073709551616) (hS : S < 18446744073709551616 ^ (i + 4))
    (hV : V = X * n + S / 18446744073709551616 ^ i) (hS' : S' = S + X * n * 18446744073709551616 ^ i) (j : Nat) :
    (if j = i + 4 then wd 4 V else if j = i + 3 then wd 3 V else if j = i + 2 then wd 2 V else if j = i + 1 then wd 1 V else if j = i then wd 0 V else wd j S) = wd j S' := by
  have hpos : 0 < 18446744073709551616 ^ i := Nat.pow_pos (by decide)
  have hd : S' / 18446744073709551616 ^ i = V := by
    rw [hS', Nat.add_mul_div_right _ _ hpos, hV, Nat.add_comm]
  have hw : ∀ k, wd (i + k) S' = wd k V := fun k => by rw [wd_add, hd]
  by_cases h4 : j = i + 4
  · rw [if_pos h4, h4, hw]
  rw [if_neg h4]
  by_cases h3 : j = i + 3
  · rw [if_pos h3, h3, hw]
  rw [if_neg h3]
  by_cases h2 : j = i + 2
  · rw [if_pos h2, h2, hw]
  rw [if_neg h2]
  by_cases h1 : j = i + 1
  · rw [if_pos h1, h1, hw]
  rw [if_neg h1]
  by_cases h0 : j = i
  · rw [if_pos h0, h0, ← hw 0, Nat.add_zero]
  rw [if_neg h0]
  by_cases hl : j < i
  · rw [hS', wd_low hl]
  · obtain ⟨d, rfl⟩ : ∃ d, j = i + (5 + d) := ⟨j - i - 5, by omega⟩
    have hq : S / 18446744073709551616 ^ i < 18446744073709551616 ^ 4 := by
      rw [Nat.div_lt_iff_lt_mul hpos, ← Nat.pow_add, Nat.add_comm 4]
      exact hS
    have hVb : V < 18446744073709551616 ^ 5 := by
      have h := Nat.mul_le_mul (Nat.le_sub_one_of_lt hX) (Nat.le_sub_one_of_lt hn)
      rw [hV]
      have e5 : (18446744073709551616 : Nat) ^ 5 = 115792089237316195423570985008687907853269984665640564039457584007913129639936 * 18446744073709551616 := by decide
      have e4 : (18446744073709551616 : Nat) ^ 4 = 115792089237316195423570985008687907853269984665640564039457584007913129639936 := by decide
      rw [e4] at hq
      rw [e5]
      omega
    have hge : 18446744073709551616 ^ 5 ≤ 18446744073709551616 ^ (5 + d) := Nat.pow_le_pow_right (by decide) (by omega)
    have hge4 : 18446744073709551616 ^ 4 ≤ 18446744073709551616 ^ (5 + d) := Nat.pow_le_pow_right (by decide) (by omega)
    rw [hw, wd_add, wd_big (Nat.lt_of_lt_of_le hVb hge), wd_big (Nat.lt_of_lt_of_le hq hge4)]

/-- The product so far. -/
theorem prod_step (X Y i : Nat) : X * (Y % 18446744073709551616 ^ (i + 1)) = X * (Y % 18446744073709551616 ^ i) + X * wd i Y * 18446744073709551616 ^ i := by
  rw [Nat.mod_pow_succ, Nat.mul_add, Nat.mul_comm (18446744073709551616 ^ i), Nat.mul_assoc]
  rfl
theorem prod_lt {X : Nat} (hX : X < 115792089237316195423570985008687907853269984665640564039457584007913129639936) (Y i : Nat) : X * (Y % 18446744073709551616 ^ i) < 18446744073709551616 ^ (i + 4) := by
  have hpos : 0 < 18446744073709551616 ^ i := Nat.pow_pos (by decide)
  have h1 : Y % 18446744073709551616 ^ i < 18446744073709551616 ^ i := Nat.mod_lt _ hpos
  have e4 : (18446744073709551616 : Nat) ^ 4 = 115792089237316195423570985008687907853269984665640564039457584007913129639936 := by decide
  rw [Nat.pow_add, e4, Nat.mul_comm]
  exact Nat.mul_lt_mul_of_lt_of_le h1 (Nat.le_of_lt hX) (by omega)

theorem v4_at {i S : Nat} (hS : S < 18446744073709551616 ^ (i + 4)) : v4 (wd i S) (wd (i + 1) S) (wd (i + 2) S) (wd (i + 3) S) = S / 18446744073709551616 ^ i := by
  have hpos : 0 < 18446744073709551616 ^ i := Nat.pow_pos (by decide)
  have h0 : wd i S = wd 0 (S / 18446744073709551616 ^ i) := wd_add i 0 S
  rw [h0, wd_add, wd_add, wd_add]
  apply v4_wd
  have e4 : (18446744073709551616 : Nat) ^ 4 = 115792089237316195423570985008687907853269984665640564039457584007913129639936 := by decide
  rw [← e4, Nat.div_lt_iff_lt_mul hpos, ← Nat.pow_add, Nat.add_comm 4]
  exact hS

theorem v4_low (S : Nat) : v4 (wd 0 S) (wd 1 S) (wd 2 S) (wd 3 S) = S % 115792089237316195423570985008687907853269984665640564039457584007913129639936 := by
  simp only [wd_0, wd_1, wd_2, wd_3, v4]
  omega

/-- The upper half, 38 times, and the lower one: what is left is the same, and it is little. -/
theorem fold_ok {S V : Nat} (hS : S < 18446744073709551616 ^ 8) (hV : V = S / 115792089237316195423570985008687907853269984665640564039457584007913129639936 * 38 + S % 115792089237316195423570985008687907853269984665640564039457584007913129639936) :
    wd 4 V < 4294967296 ∧ v4 (wd 0 V) (wd 1 V) (wd 2 V) (wd 3 V) + wd 4 V * 115792089237316195423570985008687907853269984665640564039457584007913129639936 = V ∧
    V % 57896044618658097711785492504343953926634992332820282019728792003956564819949 = S % 57896044618658097711785492504343953926634992332820282019728792003956564819949 := by
  have e8 : (18446744073709551616 : Nat) ^ 8 = 115792089237316195423570985008687907853269984665640564039457584007913129639936 * 115792089237316195423570985008687907853269984665640564039457584007913129639936 := by decide
  rw [e8] at hS
  have hu : S / 115792089237316195423570985008687907853269984665640564039457584007913129639936 < 115792089237316195423570985008687907853269984665640564039457584007913129639936 := by omega
  have hVS : S = V + S / 115792089237316195423570985008687907853269984665640564039457584007913129639936 * 2 * 57896044618658097711785492504343953926634992332820282019728792003956564819949 := by omega
  have hV2 : V < 39 * 115792089237316195423570985008687907853269984665640564039457584007913129639936 := by omega
  have hq : V / 115792089237316195423570985008687907853269984665640564039457584007913129639936 < 39 := by
    clear hVS hV hS hu e8
    omega
  have hw : wd 4 V = V / 115792089237316195423570985008687907853269984665640564039457584007913129639936 := by
    rw [wd_4]
    exact Nat.mod_eq_of_lt (by omega)
  refine ⟨by omega, ?_, ?_⟩
  · rw [v4_low, hw]
    clear hVS hV hS hu e8
    omega
  · have : S % 57896044618658097711785492504343953926634992332820282019728792003956564819949 = (V + S / 115792089237316195423570985008687907853269984665640564039457584007913129639936 * 2 * 57896044618658097711785492504343953926634992332820282019728792003956564819949) % 57896044618658097711785492504343953926634992332820282019728792003956564819949 := congrArg (· % _) hVS
    rw [this, Nat.add_mul_mod_self_right]

end Go.Am.Num

/-
  Mul on the abstract machine (own work).
-/
set_option linter.unusedSimpArgs false
set_option linter.unusedVariables false
namespace Go.Am.Seat
open Go.Proofs Go.Am Go.Am.Num
set_option maxRecDepth 100000
set_option maxHeartbeats 4000000

theorem cellS (m : Mem) (b o : Nat) : cellAt (m.map sealed) b o = cellAt m b o := by
  unfold cellAt
  rw [look_sealed]
  cases look m b <;> rfl
theorem cellK {m : Mem} {q : Nat} {ro : Bool} {e : TypeId} {k : IntKind} {n j : Nat} {w : Nat → Nat} (h : m[q]? = some (.row ro e (rowK k n w))) (hj : j < n) : cellAt m q j = some (.int k ((w j : Nat) : Int)) := by
  unfold cellAt
  rw [look_row h]
  exact rowK_get hj
theorem wk {i : Nat} (k : Nat) (hi : i < 1000) (hk : k < 1000) : wrapF .i64 (((i : Nat) : Int) + ((k : Nat) : Int)) = ((i + k : Nat) : Int) := by
  rw [wrap_i64 (by omega) (by omega)]; omega
section
variable {self : Self} {nf : Nat} {M : Mem} {F : Nat → Value} {X Y S i p q : Nat}
end
end Go.Am.Seat

/-
  Mul on the abstract machine, whole (own work).
-/
set_option linter.unusedSimpArgs false
set_option linter.unusedVariables false
namespace Go.Am.Seat
open Go.Proofs Go.Am Go.Am.Num
set_option maxRecDepth 100000
set_option maxHeartbeats 4000000

section
variable {self : Self} {nf : Nat} {M : Mem} {F : Nat → Value} {X Y i p q : Nat}
theorem wd_le (k : Nat) {V : Nat} : wd k V < 18446744073709551616 := wd_lt k V

end
end Go.Am.Seat

/-
  Rows of numbers, and elements, against others (own work).
-/
set_option linter.unusedSimpArgs false
set_option linter.unusedVariables false
namespace Go.Am.Seat
open Go.Proofs Go.Am Go.Am.Num
set_option maxRecDepth 100000
set_option maxHeartbeats 4000000

section
variable {e : TypeId} {k : IntKind}
theorem pv_eqIntG (hu : E.P.underlying e = some (.int k)) (d : Nat) (a b : Int) : pv E.P (Op.equalIn (d + 1) e (.int k a) (.int k b)) = some (a == b) := by
  unfold Op.equalIn
  rw [pv_bind (pv_und hu)]
  simp
  rfl
theorem pv_partG (ha : pv E.P (isAgg e) = some false) {n : Nat} (w : Nat → Nat) {j : Nat} (h : j < n) : pv E.P (part e ⟨rowK k n w⟩ j) = some (.int k ((w j : Nat) : Int)) := by
  unfold part
  rw [pv_bind ha]
  have hg : (⟨rowK k n w⟩ : Array Value)[j]? = some (.int k ((w j : Nat) : Int)) := by
    rw [List.getElem?_toArray, rowK_get h]
  simp only [Bool.false_eq_true, if_false, hg]
  rfl

def eqBodyG (e : TypeId) (k : IntKind) (n : Nat) (u v : Nat → Nat) (i : Nat) (_s : Option Bool × Unit) : Sem (ForInStep (Option Bool × Unit)) := do
  let a ← part e ⟨rowK k n u⟩ (i * 1)
  let b ← part e ⟨rowK k n v⟩ (i * 1)
  let c ← Op.equalIn 9999 e a b
  if (!c) = true then pure (ForInStep.done (some false, ())) else pure (ForInStep.yield (none, ()))

theorem pv_bodyG (hu : E.P.underlying e = some (.int k)) (ha : pv E.P (isAgg e) = some false) {n : Nat} (u v : Nat → Nat) {i : Nat} (h : i < n) (x : Option Bool × Unit) : pv E.P (eqBodyG e k n u v i x) = some (if ((u i : Nat) : Int) == ((v i : Nat) : Int) then ForInStep.yield (none, ()) else ForInStep.done (some false, ())) := by
  unfold eqBodyG
  rw [Nat.mul_one, pv_bind (pv_partG ha u h), pv_bind (pv_partG ha v h), pv_bind (pv_eqIntG hu 9998 _ _)]
  cases hq : (((u i : Nat) : Int) == ((v i : Nat) : Int)) <;> rfl

theorem pv_loopG (hu : E.P.underlying e = some (.int k)) (ha : pv E.P (isAgg e) = some false) {n : Nat} (u v : Nat → Nat) : ∀ l : List Nat, (∀ i, i ∈ l → i < n) → pv E.P (forIn l (none, ()) (eqBodyG e k n u v)) = some (if l.all (fun j => ((u j : Nat) : Int) == ((v j : Nat) : Int)) then (none, ()) else (some false, ()))
  | [], _ => rfl
  | a :: l, h => by
    rw [List.forIn_cons, pv_bind (pv_bodyG hu ha u v (h a (by simp)) _), List.all_cons]
    cases hq : (((u a : Nat) : Int) == ((v a : Nat) : Int)) with
    | true =>
      simp only [if_true, Bool.true_and]
      exact pv_loopG hu ha u v l fun i hi => h i (by simp [hi])
    | false => rfl

theorem pv_equalG {t : TypeId} {n : Nat} (ht : ArrT t n e k) (ha : pv E.P (isAgg e) = some false) (hs : pv E.P (sizeOf e) = some 1) (u v : Nat → Nat) : pv E.P (Op.equal t (arrK k n u) (arrK k n v)) = some ((List.range n).all fun j => ((u j : Nat) : Int) == ((v j : Nat) : Int)) := by
  unfold Op.equal Op.maxDepth
  rw [show (10000 : Nat) = 9999 + 1 from rfl]
  unfold Op.equalIn arrK
  rw [pv_bind (pv_und ht.und)]
  simp only
  rw [pv_bind hs]
  simp only [Std.Legacy.Range.forIn_eq_forIn_range', Std.Legacy.Range.size, Nat.sub_zero, Nat.add_sub_cancel, Nat.div_one]
  have hl := pv_loopG ht.unde ha u v (List.range n) (fun i hi => List.mem_range.1 hi)
  rw [List.range_eq_range'] at hl ⊢
  show pv E.P (forIn (List.range' 0 n) (none, ()) (eqBodyG e k n u v) >>= _) = _
  rw [pv_bind hl]
  cases hq : (List.range' 0 n).all (fun j => ((u j : Nat) : Int) == ((v j : Nat) : Int)) <;> rfl

theorem eqlVal_arr {t : TypeId} {n : Nat} (ht : ArrT t n e k) (ha : pv E.P (isAgg e) = some false) (hs : pv E.P (sizeOf e) = some 1) (hq : E.P.eqGuardType E.P.depth t = false) {x y : Operand} (u v : Nat → Nat) :
    eqlVal E.P t x y (arrK k n u) (arrK k n v) = some (.bool ((List.range n).all fun j => ((u j : Nat) : Int) == ((v j : Nat) : Int))) := by
  have hg : pv E.P (eqGuard .eql t x y (arrK k n u) (arrK k n v)) = some () := by
    unfold eqGuard arrK
    simp only [Bool.not_true, Bool.false_eq_true, if_false]
    rw [pv_bind (a := E.P) rfl, pv_bind (a := E.P) rfl]
    rw [hq]
    rfl
  have hb : pv E.P (binOp .eql t (arrK k n u) (arrK k n v)) = some (.bool ((List.range n).all fun j => ((u j : Nat) : Int) == ((v j : Nat) : Int))) := by
    show pv E.P (Op.equal t (arrK k n u) (arrK k n v) >>= fun c => pure (Value.bool c)) = _
    rw [pv_bind (pv_equalG ht ha hs u v)]
    rfl
  unfold eqlVal
  rw [arrK_lit, arrK_lit]
  simp only [Bool.and_self, if_true]
  rw [pv_bind (a := Value.bool ((List.range n).all fun j => ((u j : Nat) : Int) == ((v j : Nat) : Int))) (by rw [pv_bind hg, hb])]
  rfl
end

/-- Whether two values differ, whatever temporaries they come from. -/
noncomputable def neqVal (P : Program) (s : TypeId) (x y : Operand) (u v : Value) : Option Value :=
  if lit2 u && (lit2 v && true) then
    match pv P ((eqGuard .neq s x y u v >>= fun _ => binOp .neq s u v) >>= fun r => pure (Next.value r)) with
    | some (.value r) => if lit2 r then some r else none
    | _ => none
  else none
theorem apure_neqV {P : Program} {T : List Value} {d : Option Tmp} {s t ty : TypeId} {x y : Operand} {pos : String} {af : Array Edge} {g : Option (Nat × Bool)} :
    apure P T { dst := d, op := .binOp .neq s x y t, type := ty, pos := pos, after := af, guard := g } = neqVal P s x y (ev T x) (ev T y) := by
  unfold apure neqVal
  simp only [Op.operands, List.all_cons, List.all_nil, execOp]
  rfl
theorem neqVal_arr {e : TypeId} {k : IntKind} {t : TypeId} {n : Nat} (ht : ArrT t n e k) (ha : pv E.P (isAgg e) = some false) (hs : pv E.P (sizeOf e) = some 1) (hq : E.P.eqGuardType E.P.depth t = false) {x y : Operand} (u v : Nat → Nat) :
    neqVal E.P t x y (arrK k n u) (arrK k n v) = some (.bool !((List.range n).all fun j => ((u j : Nat) : Int) == ((v j : Nat) : Int))) := by
  have hg : pv E.P (eqGuard .neq t x y (arrK k n u) (arrK k n v)) = some () := by
    unfold eqGuard arrK
    simp only [Bool.not_true, Bool.false_eq_true, if_false]
    rw [pv_bind (a := E.P) rfl, pv_bind (a := E.P) rfl]
    rw [hq]
    rfl
  have hb : pv E.P (binOp .neq t (arrK k n u) (arrK k n v)) = some (.bool !((List.range n).all fun j => ((u j : Nat) : Int) == ((v j : Nat) : Int))) := by
    show pv E.P (Op.equal t (arrK k n u) (arrK k n v) >>= fun c => pure (Value.bool !c)) = _
    rw [pv_bind (pv_equalG ht ha hs u v)]
    rfl
  unfold neqVal
  rw [arrK_lit, arrK_lit]
  simp only [Bool.and_self, if_true]
  rw [pv_bind (a := Value.bool !((List.range n).all fun j => ((u j : Nat) : Int) == ((v j : Nat) : Int))) (by rw [pv_bind hg, hb])]
  rfl

def eqBodyS (u v : Nat → Nat) (f : Field) (_s : Option Bool × Unit) : Sem (ForInStep (Option Bool × Unit)) :=
  if f.name ≠ "_" then do
    let a ← part f.type ⟨rowK .u64 4 u⟩ f.offset
    let b ← part f.type ⟨rowK .u64 4 v⟩ f.offset
    let c ← Op.equalIn 9999 f.type a b
    if (!c) = true then pure (ForInStep.done (some false, ())) else pure (ForInStep.yield (none, ()))
  else pure (ForInStep.yield (none, ()))

theorem el_arr (V : Nat) : el V = arrK .u64 4 (fun j => wd j V) := rfl
theorem el_inj {U V : Nat} (hU : U < 115792089237316195423570985008687907853269984665640564039457584007913129639936) (hV : V < 115792089237316195423570985008687907853269984665640564039457584007913129639936) : ([0, 1, 2, 3].all fun j => ((wd j U : Nat) : Int) == ((wd j V : Nat) : Int)) = decide (U = V) := by
  by_cases h : U = V
  · subst h; simp
  · rw [decide_eq_false h]
    cases hq : [0, 1, 2, 3].all (fun j => ((wd j U : Nat) : Int) == ((wd j V : Nat) : Int)) with
    | false => rfl
    | true =>
      exfalso
      simp only [List.all_cons, List.all_nil, Bool.and_true, Bool.and_eq_true, beq_iff_eq, Int.natCast_inj] at hq
      obtain ⟨q0, q1, q2, q3⟩ := hq
      apply h
      rw [← v4_wd hU, ← v4_wd hV, q0, q1, q2, q3]

end Go.Am.Seat
