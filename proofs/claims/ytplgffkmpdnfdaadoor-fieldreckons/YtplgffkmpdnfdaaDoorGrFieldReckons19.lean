/-
  Texts of my own, put together: S1, A1, A2, A3, E1.
-/
import Derived.Test.YtplgffkmpdnfdaaDoorGrFieldReckons12
import Derived.Test.YtplgffkmpdnfdaaDoorGrFieldReckons14
/-
  Arrays of numbers, and the turns of SHA-512, on the abstract machine (own work).
-/
set_option linter.unusedSimpArgs false
set_option linter.unusedVariables false
namespace Go.Am.Seat
open Go.Proofs Go.Am
set_option maxRecDepth 100000

-- ntmps 9
-- ntmps 17
-- ntmps 122
-- ntmps 71

/-- So many numbers of a kind. -/
def rowK (k : IntKind) (n : Nat) (w : Nat → Nat) : List Value := (List.range n).map fun j => .int k ((w j : Nat) : Int)
def arrK (k : IntKind) (n : Nat) (w : Nat → Nat) : Value := .agg ⟨rowK k n w⟩
theorem rowK_length (k : IntKind) (n : Nat) (w : Nat → Nat) : (rowK k n w).length = n := by simp [rowK]
theorem rowK_get {k : IntKind} {n : Nat} {w : Nat → Nat} {j : Nat} (h : j < n) : (rowK k n w)[j]? = some (.int k ((w j : Nat) : Int)) := by
  unfold rowK
  rw [List.getElem?_map, List.getElem?_range h]
  rfl
theorem rowK_set {k : IntKind} {n : Nat} {w : Nat → Nat} {i x : Nat} : (rowK k n w).set i (.int k ((x : Nat) : Int)) = rowK k n (fun j => if j = i then x else w j) := by
  apply List.ext_getElem?
  intro q
  rw [List.getElem?_set]
  by_cases hk : q < n
  · rw [rowK_get hk, rowK_get hk, rowK_length]
    by_cases h : i = q
    · subst h; simp [hk]
    · have h' : ¬ q = i := fun e => h e.symm
      simp [h, h']
  · rw [List.getElem?_eq_none (by rw [rowK_length]; omega), List.getElem?_eq_none (by rw [rowK_length]; omega), rowK_length]
    by_cases h : i = q
    · subst h; simp [hk]
    · simp [h]
theorem rowK_lit (k : IntKind) (n : Nat) (w : Nat → Nat) : (rowK k n w).all lit0 = true := by
  unfold rowK
  rw [List.all_map, List.all_eq_true]
  intro x _
  rfl
theorem rowK_ok (k : IntKind) (n : Nat) (w : Nat → Nat) : (rowK k n w).all cellOk = true := by
  unfold rowK
  rw [List.all_map, List.all_eq_true]
  intro x _
  rfl
theorem arrK_lit (k : IntKind) (n : Nat) (w : Nat → Nat) : lit2 (arrK k n w) = true := rowK_lit k n w
theorem rowK_ext {k : IntKind} {n : Nat} {w w' : Nat → Nat} (h : ∀ j, j < n → w j = w' j) : rowK k n w = rowK k n w' := by
  unfold rowK
  apply List.map_congr_left
  intro j hj
  rw [h j (List.mem_range.1 hj)]

/-- An array's type. -/
structure ArrT (t : TypeId) (n : Nat) (e : TypeId) (k : IntKind) : Prop where
  und : E.P.underlying t = some (.array n e)
  unde : E.P.underlying e = some (.int k)
  info : ∃ i, E.P.info? t = some i ∧ i.size = n
  infoe : ∃ i, E.P.info? e = some i ∧ i.size = 1

section
variable {t e : TypeId} {n : Nat} {k : IntKind} {m : Mem} {p j x : Nat} {w : Nat → Nat} {ro : Bool} {be : TypeId} {cs : List Value}

theorem ArrT.box (h : ArrT t n e k) : abox E.P t (arrK k n w) m = some (.pointer (some ⟨m.length, 0, none⟩), m ++ [.row false t (rowK k n w)]) := by
  obtain ⟨i, h1, _⟩ := h.info
  unfold abox arrK
  simp only [h1, vcells, rowK_ok, if_true]
theorem ArrT.load (h : ArrT t n e k) (hm : m[p]? = some (.row ro be (rowK k n w))) : aload E.P t (.pointer (some ⟨p, 0, none⟩)) m = some (arrK k n w) := by
  obtain ⟨i, h1, h2⟩ := h.info
  unfold aload
  simp only [lookRow hm, h.und, aggD, h1, h2]
  rw [if_pos (by rw [rowK_length]; omega), List.drop_zero, List.take_of_length_le (by rw [rowK_length]; omega)]
  rfl
theorem ArrT.store (h : ArrT t n e k) (hn : n ≠ 1) (hm : m[p]? = some (.row false be cs)) (hl : cs.length = n) : astore E.P t (.pointer (some ⟨p, 0, none⟩)) (arrK k n w) m = some (m.set p (.row false be (rowK k n w))) := by
  obtain ⟨i, h1, h2⟩ := h.info
  unfold astore arrK
  simp only [hm, vcells, rowK_ok, if_true, h1, h2]
  rw [if_pos ⟨rowK_length k n w, by rw [rowK_length]; omega⟩]
  congr 2
  have : lay cs 0 (rowK k n w) = rowK k n w := by
    unfold lay
    split
    · rename_i v hv
      have := congrArg List.length hv
      rw [rowK_length] at this
      simp at this
      omega
    · rw [List.take_zero, List.nil_append, List.drop_of_length_le (by rw [rowK_length]; omega), List.append_nil]
  rw [this]
theorem ArrT.ix (h : ArrT t n e k) (hj : j < n) : aindexAddr E.P t (.pointer (some ⟨p, 0, none⟩)) (.int .i64 (j : Nat)) = some (.pointer (some ⟨p, j, none⟩)) := by
  obtain ⟨i, h1, h2⟩ := h.infoe
  unfold aindexAddr
  simp only [h.und, h1, h2]
  rw [if_pos (by omega)]
  simp
theorem ArrT.loadE (h : ArrT t n e k) (b o : Nat) (m : Mem) : aload E.P e (.pointer (some ⟨b, o, none⟩)) m = cellAt m b o := aload_cell h.unde rfl b o m
theorem ArrT.storeE (h : ArrT t n e k) (hm : m[p]? = some (.row false be (rowK k n w))) (hj : j < n) : astore E.P e (.pointer (some ⟨p, j, none⟩)) (.int k ((x : Nat) : Int)) m = some (m.set p (.row false be (rowK k n (fun q => if q = j then x else w q)))) := by
  obtain ⟨i, h1, h2⟩ := h.infoe
  rw [astore_cell h1 h2 hm (by rw [rowK_length]; exact hj) rfl, rowK_set]
end

theorem info_of {t : TypeId} {n : Nat} (h : (E.P.info? t).map (·.size) = some n) : ∃ i, E.P.info? t = some i ∧ i.size = n := Option.map_eq_some_iff.1 h
theorem a23 : ArrT 23 8 22 .u64 := ⟨Tryd.underlying23, und22, info_of (by kernel_rfl), info_of (by kernel_rfl)⟩
theorem alloc23 (m : Mem) : aalloc E.P 23 m = some (.pointer (some ⟨m.length, 0, none⟩), m ++ [.row false 23 (rowK .u64 8 fun _ => 0)]) := by kernel_rfl
theorem andU (a b : Int) : abin .and .u64 a .u64 b = some (.int .u64 (wrapF .u64 ((((a % 18446744073709551616).toNat &&& (b % 18446744073709551616).toNat : Nat)) : Int))) := by kernel_rfl
theorem subU (a b : Int) : abin .sub .u64 a .u64 b = some (.int .u64 (wrapF .u64 (a - b))) := by kernel_rfl
theorem shlU {x n : Nat} (hn : n ≤ 64) : abin .shl .u64 ((x : Nat) : Int) .u64 ((n : Nat) : Int) = some (.int .u64 ((x * 2 ^ n % 18446744073709551616 : Nat) : Int)) := by
  unfold abin
  simp only
  rw [if_neg (by omega), Int.toNat_natCast, show IntKind.u64.bits = 64 from rfl, Nat.min_eq_left hn]
  simp only [wrapF]
  congr 2
theorem shrU {x n : Nat} (hn : n ≤ 64) : abin .shr .u64 ((x : Nat) : Int) .u64 ((n : Nat) : Int) = some (.int .u64 ((x / 2 ^ n : Nat) : Int)) := by
  unfold abin
  simp only
  rw [if_neg (by omega), Int.toNat_natCast, show IntKind.u64.bits = 64 from rfl, Nat.min_eq_left hn, Int.fdiv_eq_ediv_of_nonneg _ (by exact Int.natCast_nonneg _)]
  congr 2

section
variable {self : Self} {nf : Nat} {m : Mem} {x n : Nat}

end
end Go.Am.Seat

/-
  Primes: Fermat's theorem and Pocklington's criterion, out of whole numbers alone (own work; nothing of a dump).
-/
set_option linter.unusedSimpArgs false
set_option linter.unusedVariables false
namespace Go.Am.Num

def B : Nat → Nat → Nat
  | _, 0 => 1
  | 0, _ + 1 => 0
  | n + 1, k + 1 => B n k + B n (k + 1)

/-- A power, reckoned modulo N. -/
def pm (N b : Nat) : Nat → Nat → Nat
  | 0, _ => 1 % N
  | f + 1, e => cond (Nat.beq e 0) (1 % N) (cond (Nat.beq (e % 2) 1) ((pm N b f (e / 2)) ^ 2 % N * b % N) ((pm N b f (e / 2)) ^ 2 % N))

theorem pm_eq (N b : Nat) : ∀ f e, e < 2 ^ f → pm N b f e = b ^ e % N := by
  intro f
  induction f with
  | zero => intro e h; have : e = 0 := by simpa using h
            subst this; rfl
  | succ f ih =>
    intro e h
    simp only [pm]
    have h1 : e / 2 < 2 ^ f := by rw [Nat.pow_succ] at h; omega
    rw [ih _ h1]
    cases h0 : Nat.beq e 0 with
    | true => have := Nat.eq_of_beq_eq_true h0; subst this; rfl
    | false =>
      have hsq : (b ^ (e / 2) % N) ^ 2 % N = b ^ (2 * (e / 2)) % N := by rw [← Nat.pow_mod, ← Nat.pow_mul, Nat.mul_comm]
      cases h2 : Nat.beq (e % 2) 1 with
      | true =>
        have h3 := Nat.eq_of_beq_eq_true h2
        simp only [cond_false, cond_true]
        rw [hsq, Nat.mod_mul_mod, ← Nat.pow_succ]
        congr 2
        omega
      | false =>
        have h3 : e % 2 ≠ 1 := Nat.ne_of_beq_eq_false h2
        simp only [cond_false]
        rw [hsq]
        congr 2
        omega

end Go.Am.Num

/-
  2^255 - 19 is a prime (own work; nothing of a dump).
-/
set_option linter.unusedSimpArgs false
set_option linter.unusedVariables false
namespace Go.Am.Num

end Go.Am.Num

/-
  Words of 64 bits, and numbers modulo 2^255 - 19, in whole numbers alone (own work; nothing of a dump).
-/
set_option linter.unusedSimpArgs false
set_option linter.unusedVariables false
namespace Go.Am.Num
set_option maxHeartbeats 4000000

/-- The k-th word of a number. -/
def wd (k V : Nat) : Nat := V / 18446744073709551616 ^ k % 18446744073709551616
theorem wd_lt (k V : Nat) : wd k V < 18446744073709551616 := Nat.mod_lt _ (by decide)
theorem wd_0 (V : Nat) : wd 0 V = V % 18446744073709551616 := by simp [wd]
theorem wd_1 (V : Nat) : wd 1 V = V / 18446744073709551616 % 18446744073709551616 := by simp [wd]
theorem wd_2 (V : Nat) : wd 2 V = V / 340282366920938463463374607431768211456 % 18446744073709551616 := rfl
theorem wd_3 (V : Nat) : wd 3 V = V / 6277101735386680763835789423207666416102355444464034512896 % 18446744073709551616 := rfl
theorem wd_4 (V : Nat) : wd 4 V = V / 115792089237316195423570985008687907853269984665640564039457584007913129639936 % 18446744073709551616 := rfl

def v4 (a b c d : Nat) : Nat := a + b * 18446744073709551616 + c * 340282366920938463463374607431768211456 + d * 6277101735386680763835789423207666416102355444464034512896

theorem wd_v4 {a b c d : Nat} (ha : a < 18446744073709551616) (hb : b < 18446744073709551616) (hc : c < 18446744073709551616) (hd : d < 18446744073709551616) :
    wd 0 (v4 a b c d) = a ∧ wd 1 (v4 a b c d) = b ∧ wd 2 (v4 a b c d) = c ∧ wd 3 (v4 a b c d) = d := by
  simp only [wd_0, wd_1, wd_2, wd_3, v4]
  omega
theorem v4_wd {V : Nat} (h : V < 115792089237316195423570985008687907853269984665640564039457584007913129639936) : v4 (wd 0 V) (wd 1 V) (wd 2 V) (wd 3 V) = V := by
  simp only [wd_0, wd_1, wd_2, wd_3, v4]
  omega

theorem plus_ok (V n : Nat) :
    (wd 0 V + n) % 18446744073709551616 = wd 0 (V + n) ∧ (wd 1 V + (wd 0 V + n) / 18446744073709551616) % 18446744073709551616 = wd 1 (V + n) ∧
    (wd 2 V + (wd 1 V + (wd 0 V + n) / 18446744073709551616) / 18446744073709551616) % 18446744073709551616 = wd 2 (V + n) ∧
    (wd 3 V + (wd 2 V + (wd 1 V + (wd 0 V + n) / 18446744073709551616) / 18446744073709551616) / 18446744073709551616) % 18446744073709551616 = wd 3 (V + n) := by
  simp only [wd_0, wd_1, wd_2, wd_3]
  omega

/-- What settle reckons. -/
theorem settle_ok {V S R : Nat} {a b c d more : Nat} (ha : a < 18446744073709551616) (hb : b < 18446744073709551616) (hc : c < 18446744073709551616) (hd : d < 18446744073709551616) (hm : more < 4294967296)
    (hV : V = v4 a b c d + more * 115792089237316195423570985008687907853269984665640564039457584007913129639936)
    (hS : S = v4 a b c (d % 9223372036854775808) + 19 * (2 * more + d / 9223372036854775808))
    (hR : R = S + 19 * (wd 3 (S + 19) / 9223372036854775808)) :
    wd 0 R = wd 0 (V % 57896044618658097711785492504343953926634992332820282019728792003956564819949) ∧ wd 1 R = wd 1 (V % 57896044618658097711785492504343953926634992332820282019728792003956564819949) ∧
    wd 2 R = wd 2 (V % 57896044618658097711785492504343953926634992332820282019728792003956564819949) ∧ wd 3 R % 9223372036854775808 = wd 3 (V % 57896044618658097711785492504343953926634992332820282019728792003956564819949) := by
  have hSV : V % 57896044618658097711785492504343953926634992332820282019728792003956564819949 = S % 57896044618658097711785492504343953926634992332820282019728792003956564819949 := by
    have : V = S + (2 * more + d / 9223372036854775808) * 57896044618658097711785492504343953926634992332820282019728792003956564819949 := by
      simp only [hV, hS, v4]
      omega
    rw [this, Nat.add_mul_mod_self_right]
  have hSb : S < 57896044618658097711785492504343953926634992332820282019728792003956564819968 + 274877906944 := by
    simp only [hS, v4]
    omega
  rw [hSV]
  clear hSV hV hS
  by_cases ht : S + 19 < 57896044618658097711785492504343953926634992332820282019728792003956564819968
  · have h1 : wd 3 (S + 19) / 9223372036854775808 = 0 := by rw [wd_3]; omega
    have h2 : S % 57896044618658097711785492504343953926634992332820282019728792003956564819949 = S := Nat.mod_eq_of_lt (by omega)
    rw [h1] at hR
    rw [h2, hR]
    simp only [wd_0, wd_1, wd_2, wd_3]
    omega
  · have h1 : wd 3 (S + 19) / 9223372036854775808 = 1 := by rw [wd_3]; omega
    have h2 : S % 57896044618658097711785492504343953926634992332820282019728792003956564819949 = S - 57896044618658097711785492504343953926634992332820282019728792003956564819949 := by omega
    rw [h1] at hR
    rw [h2, hR]
    simp only [wd_0, wd_1, wd_2, wd_3]
    omega

/-- What Mul64 reckons. -/
theorem mul64_ok {x y : Nat} (hx : x < 18446744073709551616) (hy : y < 18446744073709551616) {x0 x1 y0 y1 w0 t w1 w2 w3 hi : Nat}
    (e1 : x0 = x % 4294967296) (e2 : x1 = x / 4294967296) (e3 : y0 = y % 4294967296) (e4 : y1 = y / 4294967296) (e5 : w0 = x0 * y0 % 18446744073709551616) (e6 : t = (x1 * y0 % 18446744073709551616 + w0 / 4294967296) % 18446744073709551616)
    (e7 : w1 = t % 4294967296) (e8 : w2 = t / 4294967296) (e9 : w3 = (w1 + x0 * y1 % 18446744073709551616) % 18446744073709551616)
    (e10 : hi = ((x1 * y1 % 18446744073709551616 + w2) % 18446744073709551616 + w3 / 4294967296) % 18446744073709551616) : hi = x * y / 18446744073709551616 := by
  have hx0 : x0 < 4294967296 := by omega
  have hx1 : x1 < 4294967296 := by omega
  have hy0 : y0 < 4294967296 := by omega
  have hy1 : y1 < 4294967296 := by omega
  have b1 : x0 * y0 ≤ 4294967295 * 4294967295 := Nat.mul_le_mul (by omega) (by omega)
  have b2 : x1 * y0 ≤ 4294967295 * 4294967295 := Nat.mul_le_mul (by omega) (by omega)
  have b3 : x0 * y1 ≤ 4294967295 * 4294967295 := Nat.mul_le_mul (by omega) (by omega)
  have b4 : x1 * y1 ≤ 4294967295 * 4294967295 := Nat.mul_le_mul (by omega) (by omega)
  have hxx : x = x1 * 4294967296 + x0 := by omega
  have hyy : y = y1 * 4294967296 + y0 := by omega
  have hp : x * y = x1 * y1 * 18446744073709551616 + (x1 * y0 + x0 * y1) * 4294967296 + x0 * y0 := by
    rw [hxx, hyy, Nat.add_mul, Nat.mul_add, Nat.mul_add]
    have k1 : x1 * 4294967296 * (y1 * 4294967296) = x1 * y1 * 18446744073709551616 := by
      rw [Nat.mul_mul_mul_comm]
    have k2 : x1 * 4294967296 * y0 = x1 * y0 * 4294967296 := by rw [Nat.mul_right_comm]
    have k3 : x0 * (y1 * 4294967296) = x0 * y1 * 4294967296 := by rw [Nat.mul_assoc]
    rw [k1, k2, k3]
    omega
  rw [hp]
  clear hp hxx hyy e1 e2 e3 e4
  generalize x0 * y0 = p00 at *
  generalize x1 * y0 = p10 at *
  generalize x0 * y1 = p01 at *
  generalize x1 * y1 = p11 at *
  omega

theorem hi_lt {x n : Nat} (hx : x < 18446744073709551616) (hn : n < 18446744073709551616) : x * n / 18446744073709551616 ≤ 18446744073709551614 := by
  have : x * n ≤ 18446744073709551615 * 18446744073709551615 := Nat.mul_le_mul (by omega) (by omega)
  omega

theorem dm (x : Nat) : ∃ q r, x / 18446744073709551616 = q ∧ x % 18446744073709551616 = r ∧ x = q * 18446744073709551616 + r ∧ r < 18446744073709551616 := ⟨_, _, rfl, rfl, by omega, by omega⟩

theorem digits5 {V m1 m2 m3 m4 e : Nat} (hV : V = m1 + m2 * 18446744073709551616 + m3 * 340282366920938463463374607431768211456 + m4 * 6277101735386680763835789423207666416102355444464034512896 + e * 115792089237316195423570985008687907853269984665640564039457584007913129639936)
    (h1 : m1 < 18446744073709551616) (h2 : m2 < 18446744073709551616) (h3 : m3 < 18446744073709551616) (h4 : m4 < 18446744073709551616) (h5 : e < 18446744073709551616) :
    m1 = wd 0 V ∧ m2 = wd 1 V ∧ m3 = wd 2 V ∧ m4 = wd 3 V ∧ e = wd 4 V ∧ e = V / 115792089237316195423570985008687907853269984665640564039457584007913129639936 := by
  simp only [wd_0, wd_1, wd_2, wd_3, wd_4]
  omega

theorem stage1 {p0 p1 p2 p3 h0 h1 h2 h3 l0 l1 l2 l3 c1 c2 c3 r1 r2 r3 : Nat} (e0 : p0 = h0 * 18446744073709551616 + l0) (e1 : p1 = h1 * 18446744073709551616 + l1) (e2 : p2 = h2 * 18446744073709551616 + l2) (e3 : p3 = h3 * 18446744073709551616 + l3)
    (f1 : l1 + h0 = c1 * 18446744073709551616 + r1) (f2 : l2 + h1 + c1 = c2 * 18446744073709551616 + r2) (f3 : l3 + h2 + c2 = c3 * 18446744073709551616 + r3) :
    p0 + p1 * 18446744073709551616 + p2 * 340282366920938463463374607431768211456 + p3 * 6277101735386680763835789423207666416102355444464034512896 = l0 + r1 * 18446744073709551616 + r2 * 340282366920938463463374607431768211456 + r3 * 6277101735386680763835789423207666416102355444464034512896 + (h3 + c3) * 115792089237316195423570985008687907853269984665640564039457584007913129639936 := by
  omega

theorem stage2 {a b c d l0 r1 r2 r3 H d1 d2 d3 d4 m1 m2 m3 m4 : Nat} (f1 : a + l0 = d1 * 18446744073709551616 + m1) (f2 : b + r1 + d1 = d2 * 18446744073709551616 + m2) (f3 : c + r2 + d2 = d3 * 18446744073709551616 + m3) (f4 : d + r3 + d3 = d4 * 18446744073709551616 + m4) :
    l0 + r1 * 18446744073709551616 + r2 * 340282366920938463463374607431768211456 + r3 * 6277101735386680763835789423207666416102355444464034512896 + H * 115792089237316195423570985008687907853269984665640564039457584007913129639936 + v4 a b c d =
      m1 + m2 * 18446744073709551616 + m3 * 340282366920938463463374607431768211456 + m4 * 6277101735386680763835789423207666416102355444464034512896 + (H + d4) * 115792089237316195423570985008687907853269984665640564039457584007913129639936 := by
  unfold v4
  omega

theorem carry_le {x y c q r : Nat} (hx : x < 18446744073709551616) (hy : y < 18446744073709551616) (hc : c ≤ 1) (h : x + y + c = q * 18446744073709551616 + r) (hr : r < 18446744073709551616) : q ≤ 1 := by omega

/-- What times reckons: x n, and four words more. -/
theorem times_ok {x0 x1 x2 x3 n a b c d : Nat} (h0 : x0 < 18446744073709551616) (h1 : x1 < 18446744073709551616) (h2 : x2 < 18446744073709551616) (h3 : x3 < 18446744073709551616) (hn : n < 18446744073709551616)
    (ha : a < 18446744073709551616) (hb : b < 18446744073709551616) (hc : c < 18446744073709551616) (hd : d < 18446744073709551616)
    {s1 s2 s3 H k1 k2 k3 k4 e V : Nat}
    (e1 : s1 = x1 * n % 18446744073709551616 + x0 * n / 18446744073709551616)
    (e2 : s2 = x2 * n % 18446744073709551616 + x1 * n / 18446744073709551616 + s1 / 18446744073709551616)
    (e3 : s3 = x3 * n % 18446744073709551616 + x2 * n / 18446744073709551616 + s2 / 18446744073709551616)
    (e4 : H = (x3 * n / 18446744073709551616 + s3 / 18446744073709551616) % 18446744073709551616)
    (f1 : k1 = a + x0 * n % 18446744073709551616)
    (f2 : k2 = b + s1 % 18446744073709551616 + k1 / 18446744073709551616)
    (f3 : k3 = c + s2 % 18446744073709551616 + k2 / 18446744073709551616)
    (f4 : k4 = d + s3 % 18446744073709551616 + k3 / 18446744073709551616)
    (f5 : e = (H + k4 / 18446744073709551616) % 18446744073709551616)
    (hV : V = v4 x0 x1 x2 x3 * n + v4 a b c d) :
    (s1 / 18446744073709551616 ≤ 1 ∧ s2 / 18446744073709551616 ≤ 1 ∧ k1 / 18446744073709551616 ≤ 1 ∧ k2 / 18446744073709551616 ≤ 1 ∧ k3 / 18446744073709551616 ≤ 1) ∧
    k1 % 18446744073709551616 = wd 0 V ∧ k2 % 18446744073709551616 = wd 1 V ∧ k3 % 18446744073709551616 = wd 2 V ∧ k4 % 18446744073709551616 = wd 3 V ∧ e = wd 4 V ∧ e = V / 115792089237316195423570985008687907853269984665640564039457584007913129639936 := by
  have b0 := hi_lt h0 hn
  have b1 := hi_lt h1 hn
  have b2 := hi_lt h2 hn
  have b3 := hi_lt h3 hn
  have hX : v4 x0 x1 x2 x3 * n = x0 * n + x1 * n * 18446744073709551616 + x2 * n * 340282366920938463463374607431768211456 + x3 * n * 6277101735386680763835789423207666416102355444464034512896 := by
    unfold v4
    rw [Nat.add_mul, Nat.add_mul, Nat.add_mul, Nat.mul_right_comm x1, Nat.mul_right_comm x2, Nat.mul_right_comm x3]
  have hbig : v4 x0 x1 x2 x3 * n ≤ 115792089237316195423570985008687907853269984665640564039457584007913129639935 * 18446744073709551615 := Nat.mul_le_mul (by unfold v4; omega) (by omega)
  generalize v4 x0 x1 x2 x3 * n = X at *
  generalize x0 * n = p0 at *
  generalize x1 * n = p1 at *
  generalize x2 * n = p2 at *
  generalize x3 * n = p3 at *
  obtain ⟨g0, l0, A0, C0, q3, q4⟩ := dm p0
  obtain ⟨g1, l1, A1, C1, q5, q6⟩ := dm p1
  obtain ⟨g2, l2, A2, C2, q7, q8⟩ := dm p2
  obtain ⟨g3, l3, A3, C3, q9, q10⟩ := dm p3
  obtain ⟨c1, r1, A4, C4, u3, u4⟩ := dm s1
  obtain ⟨c2, r2, A5, C5, u5, u6⟩ := dm s2
  obtain ⟨c3, r3, A6, C6, u7, u8⟩ := dm s3
  obtain ⟨d1, m1, A7, C7, u9, u10⟩ := dm k1
  obtain ⟨d2, m2, A8, C8, u11, u12⟩ := dm k2
  obtain ⟨d3, m3, A9, C9, u13, u14⟩ := dm k3
  obtain ⟨d4, m4, A10, C10, u15, u16⟩ := dm k4
  rw [A0] at b0
  rw [A1] at b1
  rw [A2] at b2
  rw [A3] at b3
  rw [C1, A0] at e1
  rw [C2, A1, A4] at e2
  rw [C3, A2, A5] at e3
  rw [A3, A6] at e4
  rw [C0] at f1
  rw [C4, A7] at f2
  rw [C5, A8] at f3
  rw [C6, A9] at f4
  rw [A10] at f5
  rw [A4, A5, A7, A8, A9, C7, C8, C9, C10]
  have i1 : l1 + g0 = c1 * 18446744073709551616 + r1 := e1.symm.trans u3
  have i2 : l2 + g1 + c1 = c2 * 18446744073709551616 + r2 := e2.symm.trans u5
  have i3 : l3 + g2 + c2 = c3 * 18446744073709551616 + r3 := e3.symm.trans u7
  have j1 : a + l0 = d1 * 18446744073709551616 + m1 := f1.symm.trans u9
  have j2 : b + r1 + d1 = d2 * 18446744073709551616 + m2 := f2.symm.trans u11
  have j3 : c + r2 + d2 = d3 * 18446744073709551616 + m3 := f3.symm.trans u13
  have j4 : d + r3 + d3 = d4 * 18446744073709551616 + m4 := f4.symm.trans u15
  have w1 : c1 ≤ 1 := carry_le (c := 0) q6 (by omega) (by omega) i1 u4
  have w2 : c2 ≤ 1 := carry_le q8 (by omega) w1 i2 u6
  have w3 : c3 ≤ 1 := carry_le q10 (by omega) w2 i3 u8
  have w4 : d1 ≤ 1 := carry_le (c := 0) ha q4 (by omega) j1 u10
  have w5 : d2 ≤ 1 := carry_le hb u4 w4 j2 u12
  have w6 : d3 ≤ 1 := carry_le hc u6 w5 j3 u14
  have w7 : d4 ≤ 1 := carry_le hd u8 w6 j4 u16
  have t1 := stage1 q3 q5 q7 q9 i1 i2 i3
  rw [← hX] at t1
  have hH : H = g3 + c3 := by rw [e4]; exact Nat.mod_eq_of_lt (by omega)
  have hHb : H ≤ 18446744073709551614 := by
    clear e1 e2 e3 e4 f1 f2 f3 f4 f5 u3 u5 u7 u9 u11 u13 u15 i1 i2 i3 j1 j2 j3 j4 q3 q5 q7 q9 hX hV
    omega
  have hee : e = H + d4 := by rw [f5]; exact Nat.mod_eq_of_lt (by omega)
  have t2 := stage2 (H := H) j1 j2 j3 j4
  rw [hH] at t2
  rw [← t1] at t2
  have := digits5 (hV.trans t2) u10 u12 u14 u16 (by omega)
  rw [hee, hH]
  exact ⟨⟨w1, w2, w4, w5, w6⟩, this⟩

end Go.Am.Num

/-
  Mul64, plus and settle on the abstract machine (own work).
-/
set_option linter.unusedSimpArgs false
set_option linter.unusedVariables false
namespace Go.Am.Seat
open Go.Proofs Go.Am Go.Am.Num
set_option maxRecDepth 100000
set_option maxHeartbeats 4000000

noncomputable def rml_0 : Array Oper := match Tryd.f106.body with
  | some (.seq (.region _ o _) _) => o
  | _ => #[]
noncomputable def lml_0 : List Oper := match Tryd.f106.body with
  | some (.seq (.region _ o _) _) => o.toList
  | _ => []
theorem eml_0 : rml_0.toList = lml_0 := rfl
noncomputable def rml_1 : Array Oper := match Tryd.f106.body with
  | some (.seq _ (.seq (.region _ o _) _)) => o
  | _ => #[]
noncomputable def lml_1 : List Oper := match Tryd.f106.body with
  | some (.seq _ (.seq (.region _ o _) _)) => o.toList
  | _ => []
theorem eml_1 : rml_1.toList = lml_1 := rfl
noncomputable def rml_2 : Array Oper := match Tryd.f106.body with
  | some (.seq _ (.seq _ (.seq (.region _ o _) _))) => o
  | _ => #[]
noncomputable def lml_2 : List Oper := match Tryd.f106.body with
  | some (.seq _ (.seq _ (.seq (.region _ o _) _))) => o.toList
  | _ => []
theorem eml_2 : rml_2.toList = lml_2 := rfl
noncomputable def rml_3 : Array Oper := match Tryd.f106.body with
  | some (.seq _ (.seq _ (.seq _ (.seq (.region _ o _) _)))) => o
  | _ => #[]
noncomputable def lml_3 : List Oper := match Tryd.f106.body with
  | some (.seq _ (.seq _ (.seq _ (.seq (.region _ o _) _)))) => o.toList
  | _ => []
theorem eml_3 : rml_3.toList = lml_3 := rfl
noncomputable def rml_4 : Array Oper := match Tryd.f106.body with
  | some (.seq _ (.seq _ (.seq _ (.seq _ (.seq (.region _ o _) _))))) => o
  | _ => #[]
noncomputable def lml_4 : List Oper := match Tryd.f106.body with
  | some (.seq _ (.seq _ (.seq _ (.seq _ (.seq (.region _ o _) _))))) => o.toList
  | _ => []
theorem eml_4 : rml_4.toList = lml_4 := rfl
noncomputable def rml_5 : Array Oper := match Tryd.f106.body with
  | some (.seq _ (.seq _ (.seq _ (.seq _ (.seq _ (.seq (.region _ o _) _)))))) => o
  | _ => #[]
noncomputable def lml_5 : List Oper := match Tryd.f106.body with
  | some (.seq _ (.seq _ (.seq _ (.seq _ (.seq _ (.seq (.region _ o _) _)))))) => o.toList
  | _ => []
theorem eml_5 : rml_5.toList = lml_5 := rfl
noncomputable def rml_6 : Array Oper := match Tryd.f106.body with
  | some (.seq _ (.seq _ (.seq _ (.seq _ (.seq _ (.seq _ (.seq (.region _ o _) _))))))) => o
  | _ => #[]
noncomputable def lml_6 : List Oper := match Tryd.f106.body with
  | some (.seq _ (.seq _ (.seq _ (.seq _ (.seq _ (.seq _ (.seq (.region _ o _) _))))))) => o.toList
  | _ => []
theorem eml_6 : rml_6.toList = lml_6 := rfl
noncomputable def rml_7 : Array Oper := match Tryd.f106.body with
  | some (.seq _ (.seq _ (.seq _ (.seq _ (.seq _ (.seq _ (.seq _ (.seq (.region _ o _) _)))))))) => o
  | _ => #[]
noncomputable def lml_7 : List Oper := match Tryd.f106.body with
  | some (.seq _ (.seq _ (.seq _ (.seq _ (.seq _ (.seq _ (.seq _ (.seq (.region _ o _) _)))))))) => o.toList
  | _ => []
theorem eml_7 : rml_7.toList = lml_7 := rfl
noncomputable def rml_8 : Array Oper := match Tryd.f106.body with
  | some (.seq _ (.seq _ (.seq _ (.seq _ (.seq _ (.seq _ (.seq _ (.seq _ (.seq (.region _ o _) _))))))))) => o
  | _ => #[]
noncomputable def lml_8 : List Oper := match Tryd.f106.body with
  | some (.seq _ (.seq _ (.seq _ (.seq _ (.seq _ (.seq _ (.seq _ (.seq _ (.seq (.region _ o _) _))))))))) => o.toList
  | _ => []
theorem eml_8 : rml_8.toList = lml_8 := rfl
noncomputable def rml_9 : Array Oper := match Tryd.f106.body with
  | some (.seq _ (.seq _ (.seq _ (.seq _ (.seq _ (.seq _ (.seq _ (.seq _ (.seq _ (.seq (.region _ o _) _)))))))))) => o
  | _ => #[]
noncomputable def lml_9 : List Oper := match Tryd.f106.body with
  | some (.seq _ (.seq _ (.seq _ (.seq _ (.seq _ (.seq _ (.seq _ (.seq _ (.seq _ (.seq (.region _ o _) _)))))))))) => o.toList
  | _ => []
theorem eml_9 : rml_9.toList = lml_9 := rfl
noncomputable def rml_10 : Array Oper := match Tryd.f106.body with
  | some (.seq _ (.seq _ (.seq _ (.seq _ (.seq _ (.seq _ (.seq _ (.seq _ (.seq _ (.seq _ (.seq (.region _ o _) _))))))))))) => o
  | _ => #[]
noncomputable def lml_10 : List Oper := match Tryd.f106.body with
  | some (.seq _ (.seq _ (.seq _ (.seq _ (.seq _ (.seq _ (.seq _ (.seq _ (.seq _ (.seq _ (.seq (.region _ o _) _))))))))))) => o.toList
  | _ => []
theorem eml_10 : rml_10.toList = lml_10 := rfl
noncomputable def rml_11 : Array Oper := match Tryd.f106.body with
  | some (.seq _ (.seq _ (.seq _ (.seq _ (.seq _ (.seq _ (.seq _ (.seq _ (.seq _ (.seq _ (.seq _ (.seq (.region _ o _) _)))))))))))) => o
  | _ => #[]
noncomputable def lml_11 : List Oper := match Tryd.f106.body with
  | some (.seq _ (.seq _ (.seq _ (.seq _ (.seq _ (.seq _ (.seq _ (.seq _ (.seq _ (.seq _ (.seq _ (.seq (.region _ o _) _)))))))))))) => o.toList
  | _ => []
theorem eml_11 : rml_11.toList = lml_11 := rfl
theorem bodyml : Tryd.f106.body = some (.seq (.region 0 rml_0 false) (.seq (.region 1 rml_1 false) (.seq (.region 2 rml_2 false) (.seq (.region 3 rml_3 false) (.seq (.region 4 rml_4 false) (.seq (.region 5 rml_5 false) (.seq (.region 6 rml_6 false) (.seq (.region 7 rml_7 false) (.seq (.region 8 rml_8 false) (.seq (.region 9 rml_9 false) (.seq (.region 10 rml_10 false) (.seq (.region 11 rml_11 false) .ret)))))))))))) := rfl
-- ntmps 51
noncomputable def rpl_0 : Array Oper := match Tryd.f105.body with
  | some (.seq (.region _ o _) _) => o
  | _ => #[]
noncomputable def lpl_0 : List Oper := match Tryd.f105.body with
  | some (.seq (.region _ o _) _) => o.toList
  | _ => []
theorem epl_0 : rpl_0.toList = lpl_0 := rfl
noncomputable def rpl_1 : Array Oper := match Tryd.f105.body with
  | some (.seq _ (.seq (.region _ o _) _)) => o
  | _ => #[]
noncomputable def lpl_1 : List Oper := match Tryd.f105.body with
  | some (.seq _ (.seq (.region _ o _) _)) => o.toList
  | _ => []
theorem epl_1 : rpl_1.toList = lpl_1 := rfl
noncomputable def rpl_2 : Array Oper := match Tryd.f105.body with
  | some (.seq _ (.seq _ (.seq (.region _ o _) _))) => o
  | _ => #[]
noncomputable def lpl_2 : List Oper := match Tryd.f105.body with
  | some (.seq _ (.seq _ (.seq (.region _ o _) _))) => o.toList
  | _ => []
theorem epl_2 : rpl_2.toList = lpl_2 := rfl
noncomputable def rpl_3 : Array Oper := match Tryd.f105.body with
  | some (.seq _ (.seq _ (.seq _ (.seq (.region _ o _) _)))) => o
  | _ => #[]
noncomputable def lpl_3 : List Oper := match Tryd.f105.body with
  | some (.seq _ (.seq _ (.seq _ (.seq (.region _ o _) _)))) => o.toList
  | _ => []
theorem epl_3 : rpl_3.toList = lpl_3 := rfl
noncomputable def rpl_4 : Array Oper := match Tryd.f105.body with
  | some (.seq _ (.seq _ (.seq _ (.seq _ (.seq (.region _ o _) _))))) => o
  | _ => #[]
noncomputable def lpl_4 : List Oper := match Tryd.f105.body with
  | some (.seq _ (.seq _ (.seq _ (.seq _ (.seq (.region _ o _) _))))) => o.toList
  | _ => []
theorem epl_4 : rpl_4.toList = lpl_4 := rfl
theorem bodypl : Tryd.f105.body = some (.seq (.region 0 rpl_0 false) (.seq (.region 1 rpl_1 false) (.seq (.region 2 rpl_2 false) (.seq (.region 3 rpl_3 false) (.seq (.region 4 rpl_4 false) .ret))))) := rfl
-- ntmps 39
noncomputable def rse_0 : Array Oper := match Tryd.f79.body with
  | some (.seq (.region _ o _) _) => o
  | _ => #[]
noncomputable def lse_0 : List Oper := match Tryd.f79.body with
  | some (.seq (.region _ o _) _) => o.toList
  | _ => []
theorem ese_0 : rse_0.toList = lse_0 := rfl
noncomputable def rse_1 : Array Oper := match Tryd.f79.body with
  | some (.seq _ (.seq (.region _ o _) _)) => o
  | _ => #[]
noncomputable def lse_1 : List Oper := match Tryd.f79.body with
  | some (.seq _ (.seq (.region _ o _) _)) => o.toList
  | _ => []
theorem ese_1 : rse_1.toList = lse_1 := rfl
noncomputable def rse_2 : Array Oper := match Tryd.f79.body with
  | some (.seq _ (.seq _ (.seq (.region _ o _) _))) => o
  | _ => #[]
noncomputable def lse_2 : List Oper := match Tryd.f79.body with
  | some (.seq _ (.seq _ (.seq (.region _ o _) _))) => o.toList
  | _ => []
theorem ese_2 : rse_2.toList = lse_2 := rfl
noncomputable def rse_3 : Array Oper := match Tryd.f79.body with
  | some (.seq _ (.seq _ (.seq _ (.seq (.region _ o _) _)))) => o
  | _ => #[]
noncomputable def lse_3 : List Oper := match Tryd.f79.body with
  | some (.seq _ (.seq _ (.seq _ (.seq (.region _ o _) _)))) => o.toList
  | _ => []
theorem ese_3 : rse_3.toList = lse_3 := rfl
noncomputable def rse_4 : Array Oper := match Tryd.f79.body with
  | some (.seq _ (.seq _ (.seq _ (.seq _ (.seq (.region _ o _) _))))) => o
  | _ => #[]
noncomputable def lse_4 : List Oper := match Tryd.f79.body with
  | some (.seq _ (.seq _ (.seq _ (.seq _ (.seq (.region _ o _) _))))) => o.toList
  | _ => []
theorem ese_4 : rse_4.toList = lse_4 := rfl
theorem bodyse : Tryd.f79.body = some (.seq (.region 0 rse_0 false) (.seq (.region 1 rse_1 false) (.seq (.region 2 rse_2 false) (.seq (.region 3 rse_3 false) (.seq (.region 4 rse_4 false) .ret))))) := rfl
-- ntmps 61

/-- A call that leads nowhere, and whose answer doesn't either. -/
def Ans (self : Self) (f : FuncId) (args : List Value) (v : Value) : Prop := ∀ M : Mem, ainv E self f args M = some (v, M)

theorem wrapU (x : Nat) : wrapF .u64 ((x : Nat) : Int) = ((x % 18446744073709551616 : Nat) : Int) := by simp only [wrapF]; omega
theorem addN (x y : Nat) : abin .add .u64 ((x : Nat) : Int) .u64 ((y : Nat) : Int) = some (.int .u64 (((x + y) % 18446744073709551616 : Nat) : Int)) := by
  have : abin .add .u64 ((x : Nat) : Int) .u64 ((y : Nat) : Int) = some (.int .u64 (wrapF .u64 (((x : Nat) : Int) + ((y : Nat) : Int)))) := by kernel_rfl
  rw [this, ← Int.natCast_add, wrapU]
theorem mulN (x y : Nat) : abin .mul .u64 ((x : Nat) : Int) .u64 ((y : Nat) : Int) = some (.int .u64 (((x * y) % 18446744073709551616 : Nat) : Int)) := by
  have : abin .mul .u64 ((x : Nat) : Int) .u64 ((y : Nat) : Int) = some (.int .u64 (wrapF .u64 (((x : Nat) : Int) * ((y : Nat) : Int)))) := by kernel_rfl
  rw [this, ← Int.natCast_mul, wrapU]
theorem mul19 (y : Nat) : abin .mul .u64 19 .u64 ((y : Nat) : Int) = some (.int .u64 (((19 * y) % 18446744073709551616 : Nat) : Int)) := mulN 19 y
theorem shr32 (x : Nat) : abin .shr .u64 ((x : Nat) : Int) .u64 32 = some (.int .u64 ((x / 4294967296 : Nat) : Int)) := shrU (n := 32) (by decide)
theorem shr63 (x : Nat) : abin .shr .u64 ((x : Nat) : Int) .u64 63 = some (.int .u64 ((x / 9223372036854775808 : Nat) : Int)) := shrU (n := 63) (by decide)
theorem shl1 (x : Nat) : abin .shl .u64 ((x : Nat) : Int) .u64 1 = some (.int .u64 ((x * 2 % 18446744073709551616 : Nat) : Int)) := shlU (n := 1) (by decide)
theorem and_mask {x k : Nat} (hk : k ≤ 64) (hx : x < 18446744073709551616) : abin .and .u64 ((x : Nat) : Int) .u64 (((2 ^ k - 1 : Nat)) : Int) = some (.int .u64 ((x % 2 ^ k : Nat) : Int)) := by
  have hb : 2 ^ k ≤ 2 ^ 64 := Nat.pow_le_pow_right (by decide) hk
  have hpos : 0 < 2 ^ k := Nat.pow_pos (by decide)
  have e1 : (((x : Nat) : Int) % 18446744073709551616).toNat = x := by omega
  have e2 : ((((2 ^ k - 1 : Nat)) : Int) % 18446744073709551616).toNat = 2 ^ k - 1 := by
    generalize 2 ^ k = q at *
    omega
  rw [andU, e1, e2, Nat.and_two_pow_sub_one_eq_mod, wrapU, Nat.mod_eq_of_lt (Nat.lt_of_le_of_lt (Nat.mod_le _ _) hx)]
theorem and32 {x : Nat} (hx : x < 18446744073709551616) : abin .and .u64 ((x : Nat) : Int) .u64 4294967295 = some (.int .u64 ((x % 4294967296 : Nat) : Int)) := and_mask (k := 32) (by decide) hx
theorem and63 {x : Nat} (hx : x < 18446744073709551616) : abin .and .u64 ((x : Nat) : Int) .u64 9223372036854775807 = some (.int .u64 ((x % 9223372036854775808 : Nat) : Int)) := and_mask (k := 63) (by decide) hx

section
variable {self : Self} {nf : Nat} {m : Mem} {x y : Nat}
theorem ml_body (hx : x < 18446744073709551616) (hy : y < 18446744073709551616) :
    abody E self nf 106 [.int .u64 (x : Nat), .int .u64 (y : Nat)] m = some (pair64 (x * y / 18446744073709551616) (x * y % 18446744073709551616), m) := by
  rw [abody_eqF (by kernel_rfl) Tryd.func106 bodyml (by kernel_rfl) (Nat.le_of_ble_eq_true rfl)]
  rw [show Tryd.f106.ntmps = 51 from rfl]
  have a1 := and32 hx
  have a2 := and32 hy
  have a3 : ∀ t : Nat, abin .and .u64 ((t % 18446744073709551616 : Nat) : Int) .u64 4294967295 = some (.int .u64 ((t % 18446744073709551616 % 4294967296 : Nat) : Int)) := fun t => and32 (Nat.mod_lt _ (by decide))
  have hm := mul64_ok hx hy rfl rfl rfl rfl rfl rfl rfl rfl rfl rfl
  simp only [eml_0, eml_1, eml_10, eml_11, eml_2, eml_3, eml_4, eml_5, eml_6, eml_7, eml_8, eml_9, lml_0, lml_1, lml_2, lml_3, lml_4, lml_5, lml_6, lml_7, lml_8, lml_9, lml_10, lml_11, agd_none, gdAt, gdV_bool, gdV_undef, Tryd.f106, List.append_eq, List.cons_append, List.nil_append, apure_call1, apure_call2, apure_call3, bft, btf, acodeN, List.getElem?_toArray, List.getElem?_cons_zero, List.getElem?_cons_succ, aopsN, adrawT, cls, astep, aop, afloat, ev, nth_lst, get_lst, aput, setAt_lst, upd_at, init_zero, init_succ, init_nil, Nat.reduceLT, Nat.reduceEqDiff, reduceIte, abuiltin, alen, Option.map_some, Option.map_none, orElse_some, apure_add, apure_eqlV, eqlVal_str, eqlVal_bool, eqlVal_ptr, eqlVal_slice, eqlVal_wide, eqlVal_int, allT, ↓aop_eqlV, apure_neq, List.map_cons, List.map_nil, List.all_cons, List.all_nil, lit2, lit1, lit0, List.isEmpty_nil, Bool.and_self, Bool.and_true, Bool.true_and, Bool.false_and, Bool.and_false, Bool.not_true, Bool.not_false, Bool.or_true, Bool.true_or, Bool.false_or, Bool.or_false, Bool.false_eq_true, if_true, if_false, List.length_map, beq_self_eq_true, und3, und4, und5, und9, a1, a2, a3, shr32, mulN, addN, finish, ares, aresL, ares1, hm]
  rfl
end
end Go.Am.Seat
