/-
  Texts of my own, put together: D4, LR0, M7, M8, LR1, LT1.
-/
import Derived.Test.YtfgincdpgdlfnaaDoorGrLimbTexts22
import Derived.Test.YtfgincdpgdlfnaaDoorGrLimbTexts18
import Derived.Test.YtfgincdpgdlfnaaDoorGrLimbTexts13
import Derived.Lib.ItoaNum
set_option linter.unusedSimpArgs false
set_option linter.unusedVariables false
set_option maxRecDepth 100000
namespace Go.Am.Seat
open Go.Proofs Go.Am
-- ntmps 42
section
variable {self : Self} {nf : Nat} {m : Mem} {F : Nat → Value} {a b : Value} {x y B q r i j : Nat}
end
end Go.Am.Seat
namespace Go.Am.Seat
open Go.Proofs Go.Am
end Go.Am.Seat
namespace Go.Am.Seat
open Go.Proofs Go.Am
set_option maxHeartbeats 4000000
-- ntmps 89
section
variable {self : Self} {nf : Nat} {M : Mem} {F : Nat → Value} {w s : Nat → Nat} {n i : Int} {p q N : Nat} {L : List Value}
end
end Go.Am.Seat
namespace Go.Am.Seat
open Go.Proofs Go.Am
set_option maxHeartbeats 4000000
section
variable {self : Self} {nf : Nat} {Z : Mem} {w : Nat → Nat} {n i : Int} {N : Nat} {L : List Value}
end
abbrev K1 : List Fact := [awakeF1]
theorem K1_hold (F : Fact) (h : F ∈ K1) : F.holds E.P mem1 := by
  simp only [List.mem_cons, List.not_mem_nil, or_false] at h
  subst h
  exact awake01
theorem awake1_call (x : Mem) : ainv E (runK E mem1 K1 2000) 4 [] (mem1 ++ x) = some (.bool true, mem1 ++ x) := by
  have h : runK E mem1 K1 2000 4 [] mem1 = some (.bool true, mem1) := by kernel_rfl
  exact ainv_lit rfl (by kernel_rfl) (by rw [show ((mem1 ++ x).take E.G).map onlyTab = mem1 from rfl]; exact h) rfl
end Go.Am.Seat
namespace Go.Am.Seat
open Go.Proofs Go.Am Go.Am.Num Go.Am.Kn
theorem W8_256 : W8 = 256 ^ 64 := by unfold W8; decide +kernel
theorem TrimAt.up {l : List Nat} {k n : Nat} (h : TrimAt (l.take k) n) (hk : k ≤ l.length) : n ≤ k ∧ (n = 0 ∨ ∃ x, 0 < x ∧ l[n - 1]? = some x) := by
  obtain ⟨h1, h2, h3⟩ := h
  rw [List.length_take, Nat.min_eq_left hk] at h1
  refine ⟨h1, ?_⟩
  rcases h3 with h3 | ⟨x, hx, h4⟩
  · exact .inl h3
  · rw [List.getElem?_take] at h4
    split at h4
    · exact .inr ⟨x, hx, h4⟩
    · cases h4
section
variable {self : Self} {nf : Nat} {m : Mem} {F : Nat → Value} {b k0 : Nat} {l : List Nat} {ro : Bool}
end
section
variable {self : Self} {nf : Nat} {m : Mem} {F : Nat → Value} {b n k x : Nat} {ro : Bool} {L : List Nat}
end
theorem val8 (w : Nat → Nat) (hw : ∀ j, w j < 18446744073709551616) (n : Nat) : val ((List.range 8).map fun t => byW w (8 * n + t)) = w n := by
  have e : ∀ t, t < 8 → byW w (8 * n + t) = w n / 2 ^ (8 * t) % 256 := fun t ht => by
    unfold byW
    rw [show (8 * n + t) / 8 = n by omega, show (8 * n + t) % 8 = t by omega]
  have hw := hw n
  show val [byW w (8 * n + 0), byW w (8 * n + 1), byW w (8 * n + 2), byW w (8 * n + 3), byW w (8 * n + 4), byW w (8 * n + 5), byW w (8 * n + 6), byW w (8 * n + 7)] = w n
  rw [e 0 (by omega), e 1 (by omega), e 2 (by omega), e 3 (by omega), e 4 (by omega), e 5 (by omega), e 6 (by omega), e 7 (by omega)]
  simp only [val, show 2 ^ (8 * 0) = 1 from rfl, show 2 ^ (8 * 1) = 256 from rfl, show 2 ^ (8 * 2) = 65536 from rfl, show 2 ^ (8 * 3) = 16777216 from rfl, show 2 ^ (8 * 4) = 4294967296 from rfl, show 2 ^ (8 * 5) = 1099511627776 from rfl, show 2 ^ (8 * 6) = 281474976710656 from rfl, show 2 ^ (8 * 7) = 72057594037927936 from rfl]
  generalize w n = x at *
  omega
theorem val_words (w : Nat → Nat) (hw : ∀ j, w j < 18446744073709551616) : ∀ n, val ((List.range (8 * n)).map (byW w)) = vN w n
  | 0 => rfl
  | n + 1 => by
    have h8 := val8 w hw n
    rw [show 8 * (n + 1) = 8 * n + 8 by omega, List.range_add, List.map_append, val_append, val_words w hw n, List.map_map, List.length_map, List.length_range]
    rw [show (List.map (byW w ∘ fun x => 8 * n + x) (List.range 8)) = (List.range 8).map fun t => byW w (8 * n + t) from rfl, h8, Nat.pow_mul]
    rfl
def CNumW (self : Self) : Prop := ∀ (m : Mem) (x : Nat), x < W8 → ∃ v m', ainv E self 7 [wd x] m = some (v, m') ∧ NumR m v m' x
theorem cnumW {Z : Mem} {K : List Fact} {n : Nat} (hK : hasF K 16 = false) (hK' : hasF K 8 = false) (hK2 : hasF K 7 = false) (hn : 1003 ≤ n) : CNumW (runK E Z K n) := by
  obtain ⟨k, rfl⟩ : ∃ k, n = k + 3 := ⟨n - 3, by omega⟩
  intro m x hx
  have hl : (natsOf (byS (wN x))).length = 64 := by rw [natsOf_byS]; simp
  obtain ⟨N, hN⟩ := trimAt_exists (l := natsOf (byS (wN x))) (by omega) (by omega)
  have h := num_call (Z := Z) (M := m) hK hK' hK2 hN (k := k) (by omega)
  refine ⟨_, _, h, .inr ⟨natsOf (byS (wN x)), N, hN.1, ?_, by rw [hl], rfl, fun e => by rw [e] at hl; cases hl⟩⟩
  have hx9 : ∀ y, y ∈ natsOf (byS (wN x)) → y < 256 := by
    rw [natsOf_byS]
    intro y hy
    obtain ⟨t, _, rfl⟩ := List.mem_map.1 hy
    exact byW_lt (wN x) t
  rw [trim_val hN hx9, natsOf_byS, val_words (wN x) (wN_lt x) 8, vN_wN8 hx]
end Go.Am.Seat
namespace Go.Am.Seat
open Go.Proofs Go.Am Go.Am.Num Go.Am.Kn
def dgN (U j : Nat) : Nat := 48 + U / 10 ^ j % 10
def padN (n U : Nat) : List Nat := (List.range n).map fun t => dgN U (n - 1 - t)
def decs (U : Nat) : List Nat := padN (Lib.nDigits U) U
theorem padN_len (n U : Nat) : (padN n U).length = n := by simp [padN]
theorem dgN_succ (U j : Nat) : dgN U (j + 1) = dgN (U / 10) j := by
  unfold dgN
  rw [Nat.pow_succ, Nat.mul_comm, ← Nat.div_div_eq_div_mul]
theorem padN_succ (n U : Nat) : padN (n + 1) U = padN n (U / 10) ++ [dgN U 0] := by
  unfold padN
  rw [List.range_succ, List.map_append]
  congr 1
  · refine List.map_congr_left fun t ht => ?_
    have ht' : t < n := List.mem_range.1 ht
    rw [show n + 1 - 1 - t = (n - 1 - t) + 1 by omega, dgN_succ]
  · simp
theorem padN_ok (n U : Nat) : digitsOk (padN n U) = true := by
  unfold digitsOk padN
  rw [List.all_eq_true]
  intro c hc
  obtain ⟨t, _, rfl⟩ := List.mem_map.1 hc
  unfold dgN
  exact decide_eq_true (by omega)
theorem decV_from (l : List Nat) : ∀ s, l.foldl (fun a c => a * 10 + (c - 48)) s = s * 10 ^ l.length + decV l := by
  unfold decV
  induction l with
  | nil => intro s; simp
  | cons c l ih =>
    intro s
    rw [List.foldl_cons, List.foldl_cons, ih, ih (0 * 10 + (c - 48)), List.length_cons, Nat.pow_succ, Nat.zero_mul, Nat.zero_add, Nat.add_mul, Nat.mul_assoc, Nat.mul_comm 10, Nat.add_assoc]
theorem decV_append (a b : List Nat) : decV (a ++ b) = decV a * 10 ^ b.length + decV b := by
  have : decV (a ++ b) = b.foldl (fun a c => a * 10 + (c - 48)) (decV a) := by unfold decV; rw [List.foldl_append]
  rw [this, decV_from]
theorem decV_zeros (k : Nat) : decV (List.replicate k 48) = 0 := by
  induction k with
  | zero => rfl
  | succ k ih => rw [List.replicate_succ', decV_append, ih]; rfl
theorem padN_val : ∀ n U, decV (padN n U) = U % 10 ^ n
  | 0, U => by simp [padN, decV, Nat.mod_one]
  | n + 1, U => by
    rw [padN_succ, decV_append, padN_val n (U / 10)]
    have h1 : decV [dgN U 0] = U % 10 := by
      unfold decV dgN
      simp
    rw [h1, List.length_singleton, Nat.pow_one, Nat.pow_succ, Nat.mul_comm (10 ^ n) 10, Nat.mod_mul]
    omega
theorem decs_val (U : Nat) : decV (decs U) = U := by
  unfold decs
  rw [padN_val, Nat.mod_eq_of_lt (Lib.lt_pow_nDigits U)]
theorem decs_ok (U : Nat) : digitsOk (decs U) = true := padN_ok _ _
theorem decs_len (U : Nat) : (decs U).length = Lib.nDigits U := padN_len _ _
theorem pow_le_nDigits {U : Nat} (h : 0 < U) : 10 ^ (Lib.nDigits U - 1) ≤ U := by
  induction U using Nat.strongRecOn with
  | _ U ih =>
    by_cases h1 : U < 10
    · rw [Lib.nDigits_small h1, Nat.sub_self, Nat.pow_zero]; exact h
    · have h2 := ih (U / 10) (by omega) (by omega)
      have h3 := Lib.nDigits_pos (U / 10)
      rw [Lib.nDigits_big h1, show Lib.nDigits (U / 10) + 1 - 1 = (Lib.nDigits (U / 10) - 1) + 1 by omega, Nat.pow_succ]
      omega
theorem nDigits_le {U k : Nat} (h : U < 10 ^ k) (hk : 0 < k) : Lib.nDigits U ≤ k := by
  rcases Nat.eq_zero_or_pos U with h0 | h0
  · subst h0; rw [Lib.nDigits_small (by omega)]; omega
  · rcases Nat.lt_or_ge k (Lib.nDigits U) with h1 | h1
    · have h2 := pow_le_nDigits h0
      have h3 := Nat.pow_le_pow_right (n := 10) (by decide) (show k ≤ Lib.nDigits U - 1 by omega)
      omega
    · exact h1
theorem decs_head {U : Nat} (h : 0 < U) : (decs U).head? ≠ some 48 := by
  have h1 := Lib.nDigits_pos U
  have h2 := pow_le_nDigits h
  have h3 := Lib.lt_pow_nDigits U
  unfold decs padN
  obtain ⟨k, hk⟩ : ∃ k, Lib.nDigits U = k + 1 := ⟨Lib.nDigits U - 1, by omega⟩
  rw [hk] at h2 h3 ⊢
  rw [Nat.add_sub_cancel] at h2
  rw [List.range_succ_eq_map, List.map_cons, List.head?_cons]
  intro he
  have he := Option.some.inj he
  unfold dgN at he
  rw [show k + 1 - 1 - 0 = k by omega] at he
  have h4 : 0 < U / 10 ^ k := Nat.div_pos h2 (Nat.pow_pos (by decide))
  have h5 : U / 10 ^ k < 10 := Nat.div_lt_of_lt_mul (by rw [← Nat.pow_succ]; exact h3)
  omega
theorem decs_ne (U : Nat) : decs U ≠ [] := by
  intro h
  have := decs_len U
  rw [h] at this
  have h1 := Lib.nDigits_pos U
  simp at this
  omega
theorem decOk_of {U : Nat} {t : List Nat} (ht : digitsOk t = true) (h : t = [] ∨ 0 < U) : decOk (decs U ++ t) = true ∧ decV (decs U ++ t) = U * 10 ^ t.length + decV t := by
  refine ⟨?_, by rw [decV_append, decs_val]⟩
  have hne := decs_ne U
  have hl : (decs U ++ t).length ≠ 0 := by
    rw [List.length_append]
    have := List.length_pos_iff.2 hne
    omega
  have hd : digitsOk (decs U ++ t) = true := by
    have := decs_ok U
    unfold digitsOk at *
    rw [List.all_append, this, ht]
    rfl
  unfold decOk
  rw [hd, decide_eq_true hl]
  rcases Nat.eq_zero_or_pos U with h0 | h0
  · subst h0
    rcases h with rfl | h
    · rw [List.append_nil, decs_len, Lib.nDigits_small (by decide)]
      rfl
    · omega
  · have h1 := decs_head h0
    have h2 : (decs U ++ t).head? = (decs U).head? := by
      cases hx : decs U with
      | nil => exact absurd hx hne
      | cons a b => rfl
    rw [h2, decide_eq_false h1]
    simp
structure Fm (n0 U nd v : Nat) (u : Nat → Nat) : Prop where
  le : nd ≤ n0
  rest : v = U / 10 ^ (n0 - nd)
  small : v < 10 ^ nd
  done : ∀ t, nd ≤ t → t < n0 → u t = dgN U (n0 - 1 - t)
theorem Fm.start {n0 U : Nat} {u : Nat → Nat} (h : U < 10 ^ n0) : Fm n0 U n0 U u := ⟨Nat.le_refl _, by simp, h, fun t h1 h2 => by omega⟩
theorem Fm.step2 {n0 U k v : Nat} {u : Nat → Nat} (h : Fm n0 U (k + 2) v u) : Fm n0 U k (v / 100) (putW (putW u (k + 1) (48 + v % 100 % 10)) k (48 + v % 100 / 10)) := by
  have hle := h.le
  refine ⟨by omega, ?_, ?_, fun t h1 h3 => ?_⟩
  · rw [h.rest, Nat.div_div_eq_div_mul, show n0 - k = n0 - (k + 2) + 2 by omega, Nat.pow_add]
  · have hs := h.small
    rw [Nat.pow_add] at hs
    exact Nat.div_lt_of_lt_mul (by rw [Nat.mul_comm]; exact hs)
  · unfold putW
    by_cases e2 : t = k
    · rw [if_pos e2, e2]
      unfold dgN
      rw [show n0 - 1 - k = n0 - (k + 2) + 1 by omega, Nat.pow_succ, ← Nat.div_div_eq_div_mul, ← h.rest]
      omega
    · rw [if_neg e2]
      by_cases e1 : t = k + 1
      · rw [if_pos e1, e1]
        unfold dgN
        rw [show n0 - 1 - (k + 1) = n0 - (k + 2) by omega, ← h.rest]
        omega
      · rw [if_neg e1]
        exact h.done t (by omega) h3
theorem Fm.step1 {n0 U v : Nat} {u : Nat → Nat} (h : Fm n0 U 1 v u) : Fm n0 U 0 0 (putW u 0 (48 + v)) := by
  have hle := h.le
  have hv : v < 10 := by simpa using h.small
  refine ⟨Nat.zero_le _, ?_, by simp, fun t _ h3 => ?_⟩
  · have e : U / 10 ^ (n0 - 0) = v / 10 := by rw [h.rest, Nat.div_div_eq_div_mul, show n0 - 0 = n0 - 1 + 1 by omega, Nat.pow_succ]
    rw [e]
    omega
  · unfold putW
    by_cases e0 : t = 0
    · rw [if_pos e0, e0]
      unfold dgN
      rw [show n0 - 1 - 0 = n0 - 1 by omega, ← h.rest, Nat.mod_eq_of_lt hv]
    · rw [if_neg e0]
      exact h.done t (by omega) h3
theorem Fm.all {n0 U v : Nat} {u : Nat → Nat} (h : Fm n0 U 0 v u) : (List.range n0).map u = padN n0 U := by
  unfold padN
  exact List.map_congr_left fun t ht => h.done t (Nat.zero_le _) (List.mem_range.1 ht)
def wpar (l : List Nat) (j : Nat) : Nat := val ((l.drop (8 * j)).take 8)
theorem val_lt8 {l : List Nat} (h : ∀ x, x ∈ l → x < 256) (n : Nat) (hl : l.length ≤ n) : val l < 2 ^ (8 * n) := by
  have h1 := val_lt h
  have h2 : (256 : Nat) ^ n = 2 ^ (8 * n) := by rw [Nat.pow_mul]
  rw [← h2]
  exact Nat.lt_of_lt_of_le h1 (Nat.pow_le_pow_right (by decide) hl)
theorem wpar_lt {l : List Nat} (h : ∀ x, x ∈ l → x < 256) (j : Nat) : wpar l j < 18446744073709551616 := by
  have := val_lt8 (l := (l.drop (8 * j)).take 8) (fun x hx => h x (List.mem_of_mem_drop (List.mem_of_mem_take hx))) 8 (by rw [List.length_take]; omega)
  exact this
theorem wpar_nil (j : Nat) : wpar [] j = 0 := by simp [wpar, val]
theorem wpar_ne {l : List Nat} {b j : Nat} (hj : j ≠ l.length / 8) : wpar (l ++ [b]) j = wpar l j := by
  unfold wpar
  rcases Nat.lt_or_ge j (l.length / 8) with h1 | h1
  · rw [List.drop_append_of_le_length (by omega), List.take_append_of_le_length (by rw [List.length_drop]; omega)]
  · rw [List.drop_of_length_le (by rw [List.length_append, List.length_singleton]; omega), List.drop_of_length_le (by omega)]
theorem wpar_eq {l : List Nat} {b : Nat} (hl : ∀ x, x ∈ l → x < 256) : wpar (l ++ [b]) (l.length / 8) = wpar l (l.length / 8) ||| b <<< (8 * (l.length % 8)) := by
  unfold wpar
  have h8 : (l.drop (8 * (l.length / 8))).length = l.length % 8 := by rw [List.length_drop]; omega
  rw [List.drop_append_of_le_length (by omega), List.take_of_length_le (by rw [List.length_append, h8, List.length_singleton]; omega), List.take_of_length_le (by rw [h8]; omega), val_append]
  have hv := val_lt8 (l := l.drop (8 * (l.length / 8))) (fun x hx => hl x (List.mem_of_mem_drop hx)) (l.length % 8) (by omega)
  rw [h8, Nat.or_comm, ← Nat.shiftLeft_add_eq_or_of_lt hv, Nat.shiftLeft_eq, show val [b] = b by simp [val], show (256 : Nat) ^ (l.length % 8) = 2 ^ (8 * (l.length % 8)) by rw [Nat.pow_mul], Nat.add_comm, Nat.mul_comm]
theorem wpar_vN (l : List Nat) : ∀ n, vN (wpar l) n = val (l.take (8 * n))
  | 0 => by simp [vN, val]
  | n + 1 => by
    rw [vN, wpar_vN l n, show 8 * (n + 1) = 8 * n + 8 by omega, List.take_add, val_append]
    rcases Nat.lt_or_ge l.length (8 * n) with h | h
    · have h2 : l.drop (8 * n) = [] := List.drop_of_length_le (by omega)
      unfold wpar
      rw [h2]
      simp [val]
    · rw [List.length_take, Nat.min_eq_left h, show (256 : Nat) ^ (8 * n) = 18446744073709551616 ^ n by rw [Nat.pow_mul]]
      rfl
theorem wpar_wide {l : List Nat} (hl : ∀ x, x ∈ l → x < 256) (h : l.length ≤ 64) : wide (wpar l) = wd (val l) := by
  rw [wide_num (wpar_lt hl), wpar_vN, List.take_of_length_le (by omega)]
theorem val_64 {l : List Nat} (hl : ∀ x, x ∈ l → x < 256) (h : l.length ≤ 64) : val l < W8 := by
  rw [W8_256]
  exact Nat.lt_of_lt_of_le (val_lt hl) (Nat.pow_le_pow_right (by decide) h)
theorem val_byS {x : Nat} (hx : x < W8) : val (natsOf (byS (wN x))) = x := by
  rw [natsOf_byS, val_words (wN x) (wN_lt x) 8, vN_wN8 hx]
theorem natsOf_inj {s t : ByteArray} (h : natsOf s = natsOf t) : s = t := by
  have : s.data.toList = t.data.toList := by
    unfold natsOf at h
    exact List.map_inj_right (fun a b hab => UInt8.toNat_inj.1 hab) |>.1 h
  cases s; cases t
  congr
  exact Array.toList_inj.1 this
end Go.Am.Seat
