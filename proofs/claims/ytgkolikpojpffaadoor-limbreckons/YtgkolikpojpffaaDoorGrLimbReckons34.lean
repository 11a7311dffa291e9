/-
  Texts of my own, put together: LR4, T, X1.
-/
import Derived.Test.YtgkolikpojpffaaDoorGrLimbReckons33
import Derived.Test.YtgkolikpojpffaaDoorGrLimbReckons8
import Derived.Lib.LaidTab
import Derived.ChangeShapes
import Derived.Test.YtgkolikpojpffaaDoorGrLimbReckons0
set_option linter.unusedSimpArgs false
set_option linter.unusedVariables false
set_option maxRecDepth 100000
namespace Go.Am.Seat
open Go.Proofs Go.Am Go.Am.Num Go.Am.Kn
structure LrAll (slf : Self) : Prop where
  ad : CAddW slf
  sb : CSubW slf
  mu : CMulW slf
  dv : CDivW slf
  cm : CCmpW slf
  ln : CLenW slf
  nu : CNumW slf
  lo : CLow slf
  ra : CAdd slf
  rm : CMul slf
  rs : CSub slf
  rc : CCmp slf
  rl : CLen slf
  rd : CDiv slf
  ro : COf slf
  aw : ∀ X, ainv E slf 7 [] (mem1 ++ X) = some (.bool true, mem1 ++ X)
theorem one_moreK (M : Mem) (o : Nat -> Nat) : ∃ m1 M', aalloc E.P 24 M = some (.pointer (some ⟨M.length, 0, none⟩), m1) /\ astore E.P 24 (.pointer (some ⟨M.length, 0, none⟩)) (wide o) m1 = some M' /\ M'[M.length]? = some (.row false 24 (rowOf o)) /\ Kept M M' := by
  obtain ⟨m1, M', h1, h2, h3, h4, h5⟩ := one_more (M := M) rfl o
  exact ⟨m1, M', h1, h2, h3, by omega, h4⟩
theorem two_moreK (M : Mem) (a b : Nat -> Nat) : ∃ m1 m2 m3 m4, aalloc E.P 24 M = some (.pointer (some ⟨M.length, 0, none⟩), m1) /\ aalloc E.P 24 m1 = some (.pointer (some ⟨M.length + 1, 0, none⟩), m2) /\ astore E.P 24 (.pointer (some ⟨M.length, 0, none⟩)) (wide a) m2 = some m3 /\ astore E.P 24 (.pointer (some ⟨M.length + 1, 0, none⟩)) (wide b) m3 = some m4 ∧
    m4[M.length]? = some (.row false 24 (rowOf a)) /\ m4[M.length + 1]? = some (.row false 24 (rowOf b)) /\ Kept M m4 := by
  obtain ⟨m1, m2, m3, m4, h1, h2, h3, h4, h5, h6, h7, h8⟩ := two_more (m := M) (M := M) rfl a b
  exact ⟨m1, m2, m3, m4, h1, h2, h3, h4, h5, h6, by omega, h7⟩
theorem Kept.at {m m' : Mem} {k : Nat} {b : Blk} (h : Kept m m') (g : m[k]? = some b) : m'[k]? = some b := by rw [h.2 k (lt_of_at g)]; exact g
theorem dig64 {x : Nat} (h : x < W8) : (dig x).length ≤ 64 := dig_len_le (by rw [← W8_256]; exact h)
theorem dig_le64 (r : Nat) : decide ((((dig r).length : Nat) : Int) ≤ 64) = decide (r < W8) := by
  rw [Bool.eq_iff_iff, decide_eq_true_eq, decide_eq_true_eq]
  constructor
  . intro h
    rcases Nat.lt_or_ge r W8 with h1 | h1
    . exact h1
    . rw [W8_256] at h1
      have := dig_len_ge h1
      omega
  . intro h
    have := dig64 h
    omega
theorem cmpN_self (r : Nat) : cmpN r r = 0 := by unfold cmpN; rw [if_neg (Nat.lt_irrefl r), if_neg (Nat.lt_irrefl r)]
theorem dig128 {x k : Nat} (h : x < 256 ^ k) (hk : k ≤ 400) : (dig x).length ≤ 400 := Nat.le_trans (dig_len_le h) hk
theorem lt129 {x : Nat} (h : x < W8 + W8) : x < 256 ^ 65 := by
  have : W8 + W8 ≤ 256 ^ 65 := by rw [W8_256]; decide +kernel
  omega
theorem mul128 {x y : Nat} (hx : x < W8) (hy : y < W8) : x * y < 256 ^ 128 := by
  have h1 : x * y < W8 * W8 := by
    rcases Nat.eq_zero_or_pos y with h | h
    . subst h; rw [Nat.mul_zero]; exact Nat.mul_pos W8_pos W8_pos
    . exact Nat.lt_of_lt_of_le (Nat.mul_lt_mul_of_pos_right hx h) (Nat.mul_le_mul_left _ (Nat.le_of_lt hy))
  have h2 : W8 * W8 = 256 ^ 128 := by rw [W8_256, ← Nat.pow_add]
  rw [h2] at h1
  exact h1
section
variable {self : Self} {nf : Nat} {x y : Nat}
theorem same_calls (rl : LrAll self) {M : Mem} {S : Value} {z : Nat} (hS : NumS M S z) (hz : (dig z).length ≤ 800) : ∃ N V M', ainv E self 8 [wd (z % W8)] M = some (N, M') /\ ainv E self 12 [S] M' = some (V, M') /\ ainv E self 11 [N, V] M' = some (.int .i64 0, M') /\ Kept M M' := by
  have hr : z % W8 < W8 := Nat.mod_lt _ W8_pos
  obtain ⟨N, M', e1, n1⟩ := rl.nu M (z % W8) hr
  obtain ⟨V, e2, n2⟩ := rl.lo M' S z (hS.on n1.keeps) hz
  have h64 := dig64 hr
  have e3 := rl.rc M' N V (z % W8) (z % W8) n1.is n2 (by omega) (by omega)
  rw [cmpN_self] at e3
  exact ⟨N, V, M', e1, e2, e3, n1.keeps⟩
theorem lre_round (rl : LrAll self) {M : Mem} {F : Nat -> Value} {X : Value} (h5 : F 5 = X) (h12 : NumS M (F 12) x) (h11 : F 11 = .bool (decide (x < y))) (nX : NumS M X x) (hx : x < W8) :
    ∃ F' M', acodeN E self nf (.seq (.region 11 rlre_11 false) (.cond (.tmp 61) (.region 12 rlre_12 false) .skip)) (lst F 165) M = some (.normal, lst F' 165, M') /\ NumS M' (F' 12) (if x < y then x + W8 else x) /\ Kept M M' /\ ∀ j, j ≠ 12 -> j < 20 -> F' j = F j := by
  obtain ⟨A, ra, a61, ak⟩ := lre_11 (self := self) (nf := nf) (m := M) h11
  by_cases h : x < y
  . rw [decide_eq_true h] at a61
    rw [if_pos h]
    obtain ⟨m1, hm1⟩ : ∃ m1, m1 = M ++ [Blk.row false 5 (List.replicate 63 (.int .u8 0))] := ⟨_, rfl⟩
    have k1 : Kept M m1 := by rw [hm1]; exact Kept.app _ _
    obtain ⟨v1, m2, e3, n3⟩ := rl.ro m1 top511 top511_len
    have b2 := build27 2 m2
    obtain ⟨v2, hv2⟩ : ∃ v2, v2 = Value.slice (some ⟨m2.length, 0, none⟩) 1 1 := ⟨_, rfl⟩
    obtain ⟨m3, hm3⟩ : ∃ m3, m3 = m2 ++ [Blk.row false 3 [.int .i64 2]] := ⟨_, rfl⟩
    rw [← hv2, ← hm3] at b2
    have k3 : Kept m2 m3 := by rw [hm3]; exact Kept.app _ _
    have n2 : NumA m3 v2 (dig 2) := by
      rw [hv2, show dig 2 = [2] by rw [dig_pos (by omega), show 2 / 256 = 0 from rfl, dig_zero]]
      exact NumA.row (L := [2]) (n := 1) (ro := false) (by rw [hm3, List.getElem?_append_right (Nat.le_refl _)]; simp [cellsN]) (by simp)
    have t := top511_val
    have ht : val (natsOf top511) < W8 := by have := W8_pos; omega
    obtain ⟨v4, m4, e4, n4⟩ := rl.rm m3 v1 v2 (val (natsOf top511)) 2 (n3.is.on k3) n2 (by have := dig64 ht; omega) (by rw [show dig 2 = [2] by rw [dig_pos (by omega), show 2 / 256 = 0 from rfl, dig_zero]]; decide)
    rw [t] at n4
    have hW : (dig W8).length ≤ 400 := dig128 (k := 65) (lt129 (by have := W8_pos; omega)) (by omega)
    obtain ⟨v5, m5, e5, n5⟩ := rl.ra m4 v4 (.slice none 0 0) W8 0 n4.is (by rw [dig_zero]; exact NumA.nil _) hW (by rw [dig_zero]; decide)
    rw [Nat.add_zero] at n5
    have kk : Kept M m5 := k1.trans (n3.keeps.trans (k3.trans (n4.keeps.trans n5.keeps)))
    obtain ⟨v6, m6, e6, n6⟩ := rl.ra m5 X v5 x W8 (nX.on kk).a n5.is (by have := dig64 hx; omega) hW
    obtain ⟨B, rb, b12, bk⟩ := lre_12 (self := self) (nf := nf) (F := A) ((ak 5 (by omega)).trans h5) hm1 e3 b2 e4 e5 e6
    refine ⟨B, m6, ?_, by rw [b12]; exact n6.s, kk.trans n6.keeps, fun j h1 h2 => (bk j h1 h2).trans (ak j h2)⟩
    clear hm1 hm3 e3 b2 e4 e5 e6
    generalize Code.region 11 rlre_11 false = C11 at *
    generalize Code.region 12 rlre_12 false = C12 at *
    simp only [acodeN, ra, rb, ev, nth_lst, Nat.reduceLT, if_true, a61]
  . rw [decide_eq_false h] at a61
    rw [if_neg h]
    refine ⟨A, M, ?_, by rw [ak 12 (by omega)]; exact h12, Kept.refl M, fun j h1 h2 => ak j h2⟩
    generalize Code.region 11 rlre_11 false = C11 at *
    generalize Code.region 12 rlre_12 false = C12 at *
    simp only [acodeN, ra, ev, nth_lst, Nat.reduceLT, if_true, a61]
theorem round_num (hx : x < W8) (hy : y < W8) : ((if x < y then x + W8 else x) - y) % W8 = (x + (W8 - y)) % W8 /\ y ≤ (if x < y then x + W8 else x) := by
  by_cases h : x < y
  . rw [if_pos h]
    exact ⟨by congr 1; omega, by omega⟩
  . rw [if_neg h]
    refine ⟨?_, by omega⟩
    rw [show x + (W8 - y) = x - y + W8 by omega, Nat.add_mod_right]
end
structure LrAt (M : Mem) (F : Nat -> Value) (n x y : Nat) (X Y : Value) : Prop where
  p : M[n]? = some (.row false 24 (rowOf (wN x)))
  q : M[n + 1]? = some (.row false 24 (rowOf (wN y)))
  a : NumS M X x
  b : NumS M Y y
  s2 : F 2 = .pointer (some ⟨n, 0, none⟩)
  s3 : F 3 = .pointer (some ⟨n + 1, 0, none⟩)
  s5 : F 5 = X
  s6 : F 6 = Y
theorem LrAt.on {M M' : Mem} {F F' : Nat -> Value} {n x y : Nat} {X Y : Value} (h : LrAt M F n x y X Y) (k : Kept M M') (hf : ∀ j, j < 7 -> F' j = F j) : LrAt M' F' n x y X Y :=
  ⟨k.at h.p, k.at h.q, h.a.on k, h.b.on k, (hf 2 (by omega)).trans h.s2, (hf 3 (by omega)).trans h.s3, (hf 5 (by omega)).trans h.s5, (hf 6 (by omega)).trans h.s6⟩
section
variable {self : Self} {nf : Nat} {n x y : Nat} {M : Mem} {F : Nat -> Value} {X Y : Value}
theorem lre_sum (rl : LrAll self) (hx : x < W8) (hy : y < W8) (h : LrAt M F n x y X Y) : ∃ A B C M1 M2 M3, acodeN E self nf (.region 4 rlre_4 false) (lst F 165) M = some (.normal, lst A 165, M1) /\ acodeN E self nf (.region 5 rlre_5 false) (lst A 165) M1 = some (.normal, lst B 165, M2) /\ acodeN E self nf (.region 6 rlre_6 false) (lst B 165) M2 = some (.normal, lst C 165, M3) /\ C 47 = .bool false /\ LrAt M3 C n x y X Y := by
  obtain ⟨e, M1, ha, st, g, k1⟩ := one_moreK M (wN ((x + y) % W8))
  obtain ⟨A, ra, a7, a8, ak⟩ := lre_4 (self := self) (nf := nf) (F := F) h.s2 h.s3 (load24 h.p) (load24 h.q) (rl.ad x y hx hy) ha st
  have h1 : LrAt M1 A n x y X Y := h.on k1 fun j hj => ak j (by omega) (by omega) (by omega)
  have l1 := dig64 hx
  have l2 := dig64 hy
  obtain ⟨S, M2, e2, n2⟩ := rl.ra M1 X Y x y h1.a.a h1.b.a (by omega) (by omega)
  obtain ⟨B, rb, b9, bk⟩ := lre_5 (self := self) (nf := nf) (F := A) h1.s5 h1.s6 e2
  have h2 : LrAt M2 B n x y X Y := h1.on n2.keeps fun j hj => bk j (by omega) (by omega)
  have hl : (dig (x + y)).length ≤ 800 := by have := dig128 (x := x + y) (k := 65) (lt129 (by omega)) (by omega); omega
  obtain ⟨N, V, M3, f1, f2, f3, k3⟩ := same_calls rl n2.s hl
  obtain ⟨C, rc, c47, ck⟩ := lre_6 (self := self) (nf := nf) (F := B) ((bk 8 (by omega) (by omega)).trans a8) ((bk 7 (by omega) (by omega)).trans a7) b9 (load24 (n2.keeps.at g)) f1 f2 f3 n2.s.len (dig_le64 (x + y))
  exact ⟨A, B, C, M1, M2, M3, ra, rb, rc, c47, h2.on k3 fun j hj => ck j (by omega)⟩
theorem lre_dif (rl : LrAll self) (hx : x < W8) (hy : y < W8) (h : LrAt M F n x y X Y) : ∃ A B C D G M1 M2 M3 M4, acodeN E self nf (.region 8 rlre_8 false) (lst F 165) M = some (.normal, lst A 165, M1) /\ acodeN E self nf (.region 9 rlre_9 false) (lst A 165) M1 = some (.normal, lst B 165, M1) /\ acodeN E self nf (.region 10 rlre_10 false) (lst B 165) M1 = some (.normal, lst C 165, M2) ∧
    acodeN E self nf (.seq (.region 11 rlre_11 false) (.cond (.tmp 61) (.region 12 rlre_12 false) .skip)) (lst C 165) M2 = some (.normal, lst D 165, M3) /\ acodeN E self nf (.region 13 rlre_13 false) (lst D 165) M3 = some (.normal, lst G 165, M4) /\ G 84 = .bool false /\ LrAt M4 G n x y X Y := by
  obtain ⟨e, M1, ha, st, g, k1⟩ := one_moreK M (wN ((x + (W8 - y)) % W8))
  obtain ⟨A, ra, a10, a8, ak⟩ := lre_8 (self := self) (nf := nf) (F := F) h.s2 h.s3 (load24 h.p) (load24 h.q) (rl.sb x y hx hy) ha st
  have h1 : LrAt M1 A n x y X Y := h.on k1 fun j hj => ak j (by omega) (by omega) (by omega)
  have l1 := dig64 hx
  have l2 := dig64 hy
  have e2 := rl.rc M1 X Y x y h1.a.a h1.b.a (by omega) (by omega)
  have q : decide (cmpN x y < 0) = decide (x < y) := by
    unfold cmpN
    by_cases hl : x < y
    . rw [if_pos hl, decide_eq_true hl]; rfl
    . rw [if_neg hl, decide_eq_false hl]; split <;> rfl
  obtain ⟨B, rb, b11, bk⟩ := lre_9 (self := self) (nf := nf) (F := A) h1.s5 h1.s6 e2 q
  have h2 : LrAt M1 B n x y X Y := h1.on (Kept.refl _) fun j hj => bk j (by omega) (by omega)
  have b1 := build27 1 M1
  obtain ⟨Z, hZ⟩ : ∃ Z, Z = Value.slice (some ⟨M1.length, 0, none⟩) 1 1 := ⟨_, rfl⟩
  obtain ⟨m1, hm1⟩ : ∃ m1, m1 = M1 ++ [Blk.row false 3 [.int .i64 1]] := ⟨_, rfl⟩
  rw [← hZ, ← hm1] at b1
  have k2 : Kept M1 m1 := by rw [hm1]; exact Kept.app _ _
  have d1 : dig 1 = [1] := by rw [dig_pos (by omega), show 1 / 256 = 0 from rfl, dig_zero]
  have nZ : NumA m1 Z (dig 1) := by
    rw [hZ, d1]
    exact NumA.row (L := [1]) (n := 1) (ro := false) (by rw [hm1, List.getElem?_append_right (Nat.le_refl _)]; simp [cellsN]) (by simp)
  obtain ⟨V, M2, e3, n3⟩ := rl.rm m1 Z X 1 x nZ (h2.a.on k2).a (by rw [d1]; decide) (by omega)
  rw [Nat.one_mul] at n3
  obtain ⟨C, rc, c12, ck⟩ := lre_10 (self := self) (nf := nf) (F := B) h2.s5 b1 e3
  have kM2 : Kept M1 M2 := k2.trans n3.keeps
  have h3 : LrAt M2 C n x y X Y := h2.on kM2 fun j hj => ck j (by omega) (by omega)
  obtain ⟨D, M3, rd, d12, k3, dk⟩ := lre_round (self := self) (nf := nf) (y := y) rl h3.s5 (by rw [c12]; exact n3.s) ((ck 11 (by omega) (by omega)).trans b11) h3.a hx
  have h4 : LrAt M3 D n x y X Y := h3.on k3 fun j hj => dk j (by omega) (by omega)
  obtain ⟨r1, r2⟩ := round_num hx hy
  have hlt : (x + (W8 - y)) % W8 < W8 := Nat.mod_lt _ W8_pos
  obtain ⟨N, m2, f1, n4⟩ := rl.nu M3 ((x + (W8 - y)) % W8) hlt
  obtain ⟨rnd, hrnd⟩ : ∃ r, r = (if x < y then x + W8 else x) := ⟨_, rfl⟩
  rw [← hrnd] at d12 r1 r2
  have hrl : rnd < W8 + W8 := by rw [hrnd]; split <;> omega
  have hl : (dig rnd).length ≤ 400 := dig128 (k := 65) (lt129 hrl) (by omega)
  obtain ⟨V2, m3, f2, n5⟩ := rl.rs m2 (D 12) Y rnd y (d12.on n4.keeps).a (h4.b.on n4.keeps).a r2 (by omega)
  have hl2 : (dig (rnd - y)).length ≤ 800 := by have := dig128 (x := rnd - y) (k := 65) (lt129 (by omega)) (by omega); omega
  obtain ⟨W, f3, n6⟩ := rl.lo m3 V2 (rnd - y) n5.s hl2
  rw [r1] at n6
  have h64 := dig64 hlt
  have f4 := rl.rc m3 N W _ _ (n4.is.on n5.keeps) n6 (by omega) (by omega)
  rw [cmpN_self] at f4
  have kM : Kept M1 M3 := kM2.trans k3
  have d8 : D 8 = .bool (decide (y ≤ x)) := (dk 8 (by omega) (by omega)).trans ((ck 8 (by omega) (by omega)).trans ((bk 8 (by omega) (by omega)).trans a8))
  have d10 := (dk 10 (by omega) (by omega)).trans ((ck 10 (by omega) (by omega)).trans ((bk 10 (by omega) (by omega)).trans a10))
  have d11 : D 11 = .bool (decide (x < y)) := (dk 11 (by omega) (by omega)).trans ((ck 11 (by omega) (by omega)).trans b11)
  obtain ⟨G, rg, g84, gk⟩ := lre_13 (self := self) (nf := nf) (F := D) d8 d11 (by by_cases hl : x < y <;> simp [hl] <;> omega) d10 rfl h4.s6 (load24 (kM.at g)) f1 f2 f3 f4
  exact ⟨A, B, C, D, G, M1, M2, M3, m3, ra, rb, rc, rd, rg, g84, h4.on (n4.keeps.trans n5.keeps) fun j hj => gk j (by omega)⟩
theorem lre_prd (rl : LrAll self) (hx : x < W8) (hy : y < W8) (h : LrAt M F n x y X Y) : ∃ A B C M1 M2 M3, acodeN E self nf (.region 15 rlre_15 false) (lst F 165) M = some (.normal, lst A 165, M1) /\ acodeN E self nf (.region 16 rlre_16 false) (lst A 165) M1 = some (.normal, lst B 165, M2) /\ acodeN E self nf (.region 17 rlre_17 false) (lst B 165) M2 = some (.normal, lst C 165, M3) /\ C 106 = .bool false /\ LrAt M3 C n x y X Y := by
  obtain ⟨e, M1, ha, st, g, k1⟩ := one_moreK M (wN (x * y % W8))
  obtain ⟨A, ra, a7, a8, ak⟩ := lre_15 (self := self) (nf := nf) (F := F) h.s2 h.s3 (load24 h.p) (load24 h.q) (rl.mu x y hx hy) ha st
  have h1 : LrAt M1 A n x y X Y := h.on k1 fun j hj => ak j (by omega) (by omega) (by omega)
  have l1 := dig64 hx
  have l2 := dig64 hy
  obtain ⟨S, M2, e2, n2⟩ := rl.rm M1 X Y x y h1.a.a h1.b.a (by omega) (by omega)
  obtain ⟨B, rb, b9, bk⟩ := lre_16 (self := self) (nf := nf) (F := A) h1.s5 h1.s6 e2
  have h2 : LrAt M2 B n x y X Y := h1.on n2.keeps fun j hj => bk j (by omega) (by omega)
  have hl : (dig (x * y)).length ≤ 800 := by have := dig128 (mul128 hx hy) (by omega); omega
  obtain ⟨N, V, M3, f1, f2, f3, k3⟩ := same_calls rl n2.s hl
  obtain ⟨C, rc, c47, ck⟩ := lre_17 (self := self) (nf := nf) (F := B) ((bk 8 (by omega) (by omega)).trans a8) ((bk 13 (by omega) (by omega)).trans a7) b9 (load24 (n2.keeps.at g)) f1 f2 f3 n2.s.len (dig_le64 (x * y))
  exact ⟨A, B, C, M1, M2, M3, ra, rb, rc, c47, h2.on k3 fun j hj => ck j (by omega)⟩
theorem lre_cmp (rl : LrAll self) (hx : x < W8) (hy : y < W8) (h : LrAt M F n x y X Y) : ∃ A, acodeN E self nf (.region 19 rlre_19 false) (lst F 165) M = some (.normal, lst A 165, M) /\ A 120 = .bool false /\ LrAt M A n x y X Y := by
  have l1 := dig64 hx
  have l2 := dig64 hy
  have e2 := rl.rc M X Y x y h.a.a h.b.a (by omega) (by omega)
  obtain ⟨l, hl, el⟩ := rl.ln x hx
  obtain ⟨k, ek, k1, _, k2⟩ := rl.rl M X x h.a.a (by omega)
  rw [hl.uniq (isLen_bit k1 k2)] at el
  obtain ⟨A, ra, a, ak⟩ := lre_19 (self := self) (nf := nf) (F := F) h.s2 h.s3 h.s5 h.s6 (load24 h.p) (load24 h.q) (rl.cm x y hx hy) e2 el ek
  exact ⟨A, ra, a, h.on (Kept.refl _) fun j hj => ak j (by omega)⟩
theorem lre_div0 (rl : LrAll self) (hx : x < W8) (hy : y < W8) (h : LrAt M F n x y X Y) (h0 : y = 0) : ∃ A B C M1, acodeN E self nf (.region 21 rlre_21 false) (lst F 165) M = some (.normal, lst A 165, M1) /\ acodeN E self nf (.region 22 rlre_22 false) (lst A 165) M1 = some (.normal, lst B 165, M1) /\ B 130 = .bool true /\ acodeN E self nf (.region 23 rlre_23 false) (lst B 165) M1 = some (.normal, lst C 165, M1) /\ C 4 = .bool true := by
  have hd := rl.dv x y hx hy
  rw [if_pos h0] at hd
  obtain ⟨e1, e2, e3, M1, ha, ha2, st, st2, g, g2, k1⟩ := two_moreK M (wN 0) (wN 0)
  obtain ⟨A, ra, a15, a16, a17, ak⟩ := lre_21 (self := self) (nf := nf) (F := F) h.s2 h.s3 (load24 h.p) (load24 h.q) hd ha ha2 st st2
  have hb := (h.b.on k1).len
  obtain ⟨B, rb, b130, bk⟩ := lre_22 (self := self) (nf := nf) (m := M1) (F := A) ((ak 6 (by omega)).trans h.s6) hb (b := true) (by rw [h0, dig_zero]; rfl)
  obtain ⟨C, rc, c4⟩ := lre_23 (self := self) (nf := nf) (F := B) ((bk 15 (by omega)).trans a15) ((bk 16 (by omega)).trans a16) ((bk 17 (by omega)).trans a17) (load24 g) (load24 g2)
  exact ⟨A, B, C, M1, ra, rb, b130, rc, c4⟩
theorem lre_div (rl : LrAll self) (hx : x < W8) (hy : y < W8) (h : LrAt M F n x y X Y) (h0 : y ≠ 0) : ∃ A B C D M1 M2 M3, acodeN E self nf (.region 21 rlre_21 false) (lst F 165) M = some (.normal, lst A 165, M1) /\ acodeN E self nf (.region 22 rlre_22 false) (lst A 165) M1 = some (.normal, lst B 165, M1) /\ B 130 = .bool false /\ acodeN E self nf (.region 24 rlre_24 false) (lst B 165) M1 = some (.normal, lst C 165, M2) /\ acodeN E self nf (.region 25 rlre_25 false) (lst C 165) M2 = some (.normal, lst D 165, M3) /\ D 4 = .bool true := by
  have hd := rl.dv x y hx hy
  rw [if_neg h0] at hd
  obtain ⟨e1, e2, e3, M1, ha, ha2, st, st2, g, g2, k1⟩ := two_moreK M (wN (x / y)) (wN (x % y))
  obtain ⟨A, ra, a15, a16, a17, ak⟩ := lre_21 (self := self) (nf := nf) (F := F) h.s2 h.s3 (load24 h.p) (load24 h.q) hd ha ha2 st st2
  have hb := (h.b.on k1).len
  obtain ⟨B, rb, b130, bk⟩ := lre_22 (self := self) (nf := nf) (m := M1) (F := A) ((ak 6 (by omega)).trans h.s6) hb (b := false) (by rw [beq_eq_false_iff_ne, dig_pos h0, List.length_cons]; omega)
  have p100 : W8 ≤ 256 ^ 100 := by rw [W8_256]; exact Nat.pow_le_pow_right (by omega) (by omega)
  obtain ⟨Q, R, M2, f1, nQ, nR, k2⟩ := rl.rd M1 X Y x y (h.a.on k1).a (h.b.on k1).a (Nat.pos_of_ne_zero h0) (by omega) (by omega)
  obtain ⟨C, rc, c18, c19, ck⟩ := lre_24 (self := self) (nf := nf) (F := B) ((bk 5 (by omega)).trans ((ak 5 (by omega)).trans h.s5)) ((bk 6 (by omega)).trans ((ak 6 (by omega)).trans h.s6)) f1
  have hq : x / y < W8 := Nat.lt_of_le_of_lt (Nat.div_le_self x y) hx
  have hr : x % y < W8 := Nat.lt_of_le_of_lt (Nat.mod_le x y) hx
  have l1 := dig64 hq
  have l2 := dig64 hr
  obtain ⟨N1, m3, f2, n1⟩ := rl.nu M2 (x / y) hq
  have f3 := rl.rc m3 N1 Q _ _ n1.is (nQ.s.on n1.keeps).a (by omega) (by omega)
  rw [cmpN_self] at f3
  obtain ⟨N2, m4, f4, n2⟩ := rl.nu m3 (x % y) hr
  have f5 := rl.rc m4 N2 R _ _ n2.is (nR.s.on (n1.keeps.trans n2.keeps)).a (by omega) (by omega)
  rw [cmpN_self] at f5
  obtain ⟨D, rd, d4⟩ := lre_25 (self := self) (nf := nf) (F := C) ((ck 15 (by omega)).trans ((bk 15 (by omega)).trans a15)) ((ck 16 (by omega)).trans ((bk 16 (by omega)).trans a16)) ((ck 17 (by omega)).trans ((bk 17 (by omega)).trans a17)) c18 c19 (load24 (k2.at g)) f2 f3 (load24 ((k2.trans n1.keeps).at g2)) f4 f5
  exact ⟨A, B, C, D, M1, M2, m4, ra, rb, b130, rc, rd, d4⟩
end
section
variable {self : Self} {nf : Nat} {x y : Nat}
theorem lre_body (rl : LrAll self) (hx : x < W8) (hy : y < W8) : ∃ m', abody E self nf 3 [wd x, wd y] mem1 = some (.bool true, m') := by
  rw [abody_eqF (by kernel_rfl) Tryd.func3 bodylre (by kernel_rfl) (Nat.le_of_ble_eq_true rfl)]
  rw [show Tryd.f3.ntmps = 165 from rfl]
  obtain ⟨n, hn⟩ : ∃ n, n = mem1.length := ⟨_, rfl⟩
  have b1 := box24 (wN x) mem1
  have b2 := box24 (wN y) (mem1 ++ [Blk.row false 24 (rowOf (wN x))])
  rw [← hn] at b1
  rw [List.length_append, List.length_singleton, ← hn] at b2
  obtain ⟨M2, hM2⟩ : ∃ M, M = mem1 ++ [Blk.row false 24 (rowOf (wN x))] ++ [Blk.row false 24 (rowOf (wN y))] := ⟨_, rfl⟩
  rw [← hM2] at b2
  have p2 : M2[n]? = some (.row false 24 (rowOf (wN x))) := by rw [hM2, List.getElem?_append_left (by simp [hn]), List.getElem?_append_right (by omega)]; simp [hn]
  have q2 : M2[n + 1]? = some (.row false 24 (rowOf (wN y))) := by rw [hM2, List.getElem?_append_right (by simp [hn])]; simp [hn]
  have hA : ainv E self 7 [] M2 = some (.bool true, M2) := by rw [hM2, List.append_assoc]; exact rl.aw _
  clear hM2 hn
  obtain ⟨A0, r0, a2, a3⟩ := lre_0 (self := self) (nf := nf) (F := init [wd x, wd y]) b1 b2 rfl rfl
  obtain ⟨A1, r1, c21, k1⟩ := lre_1 (self := self) (nf := nf) (F := A0) hA
  obtain ⟨A3, nb, r3, e2, e3, nX, nY⟩ := lre_3 (self := self) (nf := nf) (F := A1) rl.nu ((k1 2 (by omega)).trans a2) ((k1 3 (by omega)).trans a3) p2 q2 hx hy
  have h3 : LrAt (M2 ++ nb) A3 n x y (A3 5) (A3 6) := ⟨(Kept.app _ _).at p2, (Kept.app _ _).at q2, nX, nY, e2.trans ((k1 2 (by omega)).trans a2), e3.trans ((k1 3 (by omega)).trans a3), rfl, rfl⟩
  obtain ⟨M3, hM3⟩ : ∃ M, M = M2 ++ nb := ⟨_, rfl⟩
  rw [← hM3] at r3 h3
  obtain ⟨A4, A5, A6, N4, N5, N6, r4, r5, r6, c47, h6⟩ := lre_sum (self := self) (nf := nf) rl hx hy h3
  obtain ⟨A8, A9, A10, A12, A13, N8, N10, N12, N13, r8, r9, r10, r12, r13, c84, h13⟩ := lre_dif (self := self) (nf := nf) rl hx hy h6
  obtain ⟨A15, A16, A17, N15, N16, N17, r15, r16, r17, c106, h17⟩ := lre_prd (self := self) (nf := nf) rl hx hy h13
  obtain ⟨A19, r19, c120, h19⟩ := lre_cmp (self := self) (nf := nf) rl hx hy h17
  by_cases h0 : y = 0
  . obtain ⟨A21, A22, A23, N21, r21, r22, c130, r23, c4⟩ := lre_div0 (self := self) (nf := nf) rl hx hy h19 h0
    refine ⟨N21, ?_⟩
    clear rl h3 h6 h13 h17 h19 b1 b2
    generalize wd x = X at *
    generalize wd y = Y at *
    generalize Code.region 0 rlre_0 false = C0 at *
    generalize Code.region 1 rlre_1 false = C1 at *
    generalize Code.region 3 rlre_3 true = C3 at *
    generalize Code.region 4 rlre_4 false = C4 at *
    generalize Code.region 5 rlre_5 false = C5 at *
    generalize Code.region 6 rlre_6 false = C6 at *
    generalize Code.region 8 rlre_8 false = C8 at *
    generalize Code.region 9 rlre_9 false = C9 at *
    generalize Code.region 10 rlre_10 false = C10 at *
    generalize Code.seq (Code.region 11 rlre_11 false) (Code.cond (Operand.tmp 61) (Code.region 12 rlre_12 false) Code.skip) = C11 at *
    generalize Code.region 13 rlre_13 false = C13 at *
    generalize Code.region 15 rlre_15 false = C15 at *
    generalize Code.region 16 rlre_16 false = C16 at *
    generalize Code.region 17 rlre_17 false = C17 at *
    generalize Code.region 19 rlre_19 false = C19 at *
    generalize Code.region 21 rlre_21 false = C21 at *
    generalize Code.region 22 rlre_22 false = C22 at *
    generalize Code.region 23 rlre_23 false = C23 at *
    simp only [acodeN, r0, r1, r3, r4, r5, r6, r8, r9, r10, r12, r13, r15, r16, r17, r19, r21, r22, r23, ev, nth_lst, Nat.reduceLT, if_true, c21, c47, c84, c106, c120, c130, finish, ares, aresL, ares1, Tryd.f3, c4, Option.map_some]
  . obtain ⟨A21, A22, A24, A25, N21, N24, N25, r21, r22, c130, r24, r25, c4⟩ := lre_div (self := self) (nf := nf) rl hx hy h19 h0
    refine ⟨N25, ?_⟩
    clear rl h3 h6 h13 h17 h19 b1 b2
    generalize wd x = X at *
    generalize wd y = Y at *
    generalize Code.region 0 rlre_0 false = C0 at *
    generalize Code.region 1 rlre_1 false = C1 at *
    generalize Code.region 3 rlre_3 true = C3 at *
    generalize Code.region 4 rlre_4 false = C4 at *
    generalize Code.region 5 rlre_5 false = C5 at *
    generalize Code.region 6 rlre_6 false = C6 at *
    generalize Code.region 8 rlre_8 false = C8 at *
    generalize Code.region 9 rlre_9 false = C9 at *
    generalize Code.region 10 rlre_10 false = C10 at *
    generalize Code.seq (Code.region 11 rlre_11 false) (Code.cond (Operand.tmp 61) (Code.region 12 rlre_12 false) Code.skip) = C11 at *
    generalize Code.region 13 rlre_13 false = C13 at *
    generalize Code.region 15 rlre_15 false = C15 at *
    generalize Code.region 16 rlre_16 false = C16 at *
    generalize Code.region 17 rlre_17 false = C17 at *
    generalize Code.region 19 rlre_19 false = C19 at *
    generalize Code.region 21 rlre_21 false = C21 at *
    generalize Code.region 22 rlre_22 false = C22 at *
    generalize Code.region 24 rlre_24 false = C24 at *
    generalize Code.region 25 rlre_25 false = C25 at *
    simp only [acodeN, r0, r1, r3, r4, r5, r6, r8, r9, r10, r12, r13, r15, r16, r17, r19, r21, r22, r24, r25, ev, nth_lst, Nat.reduceLT, if_true, c21, c47, c84, c106, c120, c130, finish, ares, aresL, ares1, Tryd.f3, c4, Option.map_some]
end
theorem lrAll : LrAll (runK E mem1 K1 2000) where
  ad := kAdd (R := RL) hRL noL1 (by omega)
  sb := kSub (R := RL) hRL noL1 (by omega)
  mu := kMul (R := RL) hRL noL1 (by omega)
  dv := kDiv (R := RL) hRL noL1 (by omega)
  cm := kCmp (R := RL) hRL noL1 (by omega)
  ln := kLenW (R := RL) hRL noL1 rfl (by omega)
  nu := cnumW rfl rfl rfl (by omega)
  lo := clow (R := RL) hRL rfl (fun k hk => ctrimG hRL rfl (by omega)) (fun k hk => ctrim0 hRL rfl (by omega)) (by omega)
  ra := cadd (R := RL) (n := 1998) hRL rfl rfl (by omega)
  rm := cmul (R := RL) (n := 1998) hRL rfl rfl (by omega)
  rs := csub (R := RL) (n := 1998) hRL rfl rfl (by omega)
  rc := ccmp (R := RL) (n := 1999) hRL rfl (by omega)
  rl := clen (R := RL) (n := 1999) hRL rfl (cbit (R := RL) (n := 1998) hRL rfl (by omega)) (by omega)
  rd := cdiv (R := RL) (n := 1999) hRL rfl (cadd (R := RL) (n := 1997) hRL rfl rfl (by omega)) (ccmp (R := RL) (n := 1998) hRL rfl (by omega)) (csub (R := RL) (n := 1997) hRL rfl rfl (by omega)) (cbit (R := RL) (n := 1998) hRL rfl (by omega)) (by omega)
  ro := cof (R := RL) (n := 1998) hRL rfl rfl (by omega)
  aw := awake1_call
theorem lawLR (w v : Nat -> Nat) (hw : ∀ j, w j < 18446744073709551616) (hv : ∀ j, v j < 18446744073709551616) : ∃ m', runK E mem1 K1 2001 3 [wide w, wide v] mem1 = some (.bool true, m') := by
  rw [runK_other (rfl : hasF K1 3 = false), wide_num hw, wide_num hv]
  exact lre_body lrAll (vN_lt hw 8) (vN_lt hv 8)
theorem lawLRw (a : List Int) (la : a.length = 8) (wa : ∀ n, n ∈ a -> (Lit.int .u64 n).wf = true) (b : List Int) (lb : b.length = 8) (wb : ∀ n, n ∈ b -> (Lit.int .u64 n).wf = true) :
    ∃ m', runK E mem1 K1 2001 3 [.agg ⟨a.map (.int .u64)⟩, .agg ⟨b.map (.int .u64)⟩] mem1 = some (.bool true, m') := by
  rw [words_wide la wa, words_wide lb wb]
  exact lawLR _ _ (fnOf_lt wa) (fnOf_lt wb)
end Go.Am.Seat
namespace Go.Am
noncomputable section
def ren0 (P : Program) (m : Mem) : Ren := fun k => match m[k]? with
  | some (.tab e cs) => some ⟨k, cs.length, ((P.info? e).map (·.size)).getD 0⟩
  | some _ => some ⟨k, 0, 0⟩
  | none => none
def BlkAt (P : Program) (W : World) (k : Nat) : Blk -> Prop
  | .dead => True
  | .tab e cs => W.heap[k]? = some (.cells ⟨cs⟩ e (0, 0)) /\ (P.info? e).isSome = true /\ cs.all lit0 = true
  | .row .. => False
theorem mr_tabs {P : Program} {m : Mem} {W : World} (hG : P.globals.size ≤ m.length) (hsize : m.length ≤ W.heap.size) (hb : ∀ k b, m[k]? = some b -> BlkAt P W k b) : MR P (ren0 P m) m W := by
  have hr : ∀ k x, ren0 P m k = some x -> k < m.length /\ x.r = k := by
    intro k x h
    unfold ren0 at h
    cases hm : m[k]? with
    | none => rw [hm] at h; cases h
    | some b =>
      have hk : k < m.length := (List.getElem?_eq_some_iff.1 hm).1
      rw [hm] at h
      cases b <;> (cases h; exact ⟨hk, rfl⟩)
  have hs : ∀ k, k < m.length -> ∃ x, ren0 P m k = some x /\ x.r = k := by
    intro k hk
    have hm : m[k]? = some m[k] := by simp [hk]
    cases hq : m[k] with
    | dead => exact ⟨_, by unfold ren0; rw [hm, hq], rfl⟩
    | row ro e cs => exact ⟨_, by unfold ren0; rw [hm, hq], rfl⟩
    | tab e cs => exact ⟨_, by unfold ren0; rw [hm, hq], rfl⟩
  have hl : ∀ k ro e cs, look m k = some (ro, e, cs) -> m[k]? = some (.tab e cs) := by
    intro k ro e cs h
    unfold look at h
    split at h
    . rename_i b hm
      have := hb k b hm
      cases b with
      | dead => simp [Blk.cells?] at h
      | row => exact absurd this id
      | tab e' cs' =>
        simp [Blk.cells?] at h
        obtain ⟨_, rfl, rfl⟩ := h
        exact hm
    . cases h
  refine ⟨fun k hk => ?_, fun k x h => ?_, fun g hg => hs g (by omega), fun k ro e cs h => ?_, fun k e cs k' ro' e' cs' x x' h => ?_, fun k e cs h => ?_⟩
  . unfold ren0
    rw [List.getElem?_eq_none hk]
  . obtain ⟨h1, h2⟩ := hr k x h
    omega
  . have hm := hl k ro e cs h
    obtain ⟨h1, h2, h3⟩ := hb k _ hm
    refine ⟨⟨k, cs.length, ((P.info? e).map (·.size)).getD 0⟩, ⟨cs⟩, (0, 0), by unfold ren0; rw [hm], h1, rfl, Nat.le_refl _, fun i u hu => ⟨u, by simpa using hu, .lit ?_⟩, fun _ => loose_zero _, ?_⟩
    . exact lit2_of_lit1 (lit1_of_lit0 (List.all_eq_true.1 h3 u (List.mem_of_getElem? hu)))
    . cases hi : P.info? e with
      | none => rw [hi] at h2; cases h2
      | some i => rfl
  . exact absurd (hb k _ h) id
  . obtain ⟨_, _, h3⟩ := hb k _ h
    intro v hv
    exact List.all_eq_true.1 h3 v hv
theorem shaped_at {P : Program} {W : World} (h : W.ShapedOpen P) {g : Nat} {t : TypeId} (hg : g < P.globals.size) (h0 : (((begin P (fun _ _ => 0) default).world.heap[g]?).bind Obj.row?).map (·.2) = some t) :
    ∃ cs, W.heap[g]? = some (.cells cs t (0, 0)) := by
  obtain ⟨⟨z, t'⟩, h1, h2⟩ := Option.map_eq_some_iff.1 h0
  simp only at h2
  subst h2
  obtain ⟨cs, hc, _⟩ := h.1 g z t' hg h1
  exact ⟨cs, hc⟩
theorem tab_at {P : Program} {W : World} {name : String} {k : IntKind} {zs : List Int} {g : Nat} {t : TypeId} {cs : Array Value} (hg : P.globalNamed name = some g) (hc : W.heap[g]? = some (.cells cs t (0, 0))) (h : Lib.TabIs P W name k zs) :
    W.heap[g]? = some (.cells ⟨zs.map (.int k)⟩ t (0, 0)) := by
  unfold Lib.TabIs World.var? at h
  rw [hg] at h
  simp only [Option.bind_some, hc] at h
  cases h
  exact hc
theorem laid_tail {P : Program} {x : String × DataW Unit} {r : List (String × DataW Unit)} {w : World} (h : laidMet P (x :: r) w) : laidMet P r w := by
  obtain ⟨ps, hv, hnd, hrows⟩ := h
  obtain ⟨n, d⟩ := x
  obtain ⟨g, t, cs, fuel, p, q, _, _, _, _, hq, rfl⟩ := hv
  exact ⟨q, hq, List.Nodup.sublist (List.sublist_append_right _ _) hnd, fun b off hm => hrows b off (List.mem_append_right _ hm)⟩
theorem below_of_ends {P : Program} {ρ : Ren} {m m1 : Mem} {w w1 : World} {v : Value} {e : Ending} (hm : ∀ (k : Nat) (e : TypeId) (cs : List Value), m[k]? ≠ some (Blk.row false e cs)) (hv : lit2 v = true) (h : Ends P ρ m w v m1 e w1) : e = .returned v /\ Go.RowKit.Below w.heap.size w w1 := by
  obtain ⟨v', ρ1, rfl, hvr, _, hx⟩ := h
  refine ⟨?_, ⟨hx.os, hx.tape, hx.output, hx.size, fun r hr => hx.kept r hr fun k e cs _ hk _ => absurd hk (hm k e cs)⟩⟩
  rw [hvr.eq_of_lit2 hv]
end
end Go.Am
namespace Go.Am
variable {H : Type} {enc : TypeId × Value -> H} {P : Program} {W : World} {base : Nat} {spare : Nat -> Bool} {held : Bool}
theorem open_words {r : Reach} {b0 : Nat} {t e : TypeId} {v : Value} {d : DataW H} {ps : List MemPlace} (ht : P.underlying t = some (.array 8 e)) (he : P.underlying e = some (.int .u64)) (hc : P.cellsOf t = 8) (hce : P.cellsOf e = 1)
    (hval : Value.okWide P W r b0 t v) (hd : DataW.Trod enc P W base spare held t v d ps) :
    ∃ l : List Int, l.length = 8 /\ v = .agg ⟨l.map (.int .u64)⟩ /\ d = .agg (l.map fun n => .lit (.int .u64 n)) /\ ps = [] /\ ∀ n, n ∈ l -> (Lit.int .u64 n).wf = true := by
  unfold Value.okWide at hval
  simp only [ht] at hval
  obtain ⟨⟨cs⟩, rfl, hsz, _⟩ := hval
  have hlen : cs.length = 8 := by rw [hc] at hsz; simpa using hsz
  obtain ⟨fuel, hf⟩ := hd
  cases fuel with
  | zero => simp [DataW.trod] at hf
  | succ fuel =>
    unfold DataW.trod at hf
    simp only [ht, Value.cells] at hf
    match cs, hlen with
    | [c0, c1, c2, c3, c4, c5, c6, c7], _ =>
      simp only [List.length_cons, List.length_nil, hc, hce, if_true, show List.range 8 = [0, 1, 2, 3, 4, 5, 6, 7] from rfl, List.mapM_cons, List.mapM_nil, Nat.mul_one, List.drop_zero, List.drop_succ_cons, List.take_succ_cons, List.take_zero, Option.pure_def, Option.bind_eq_bind, Nat.zero_add, Nat.reduceAdd] at hf
      obtain ⟨xs, hx, hd⟩ := Option.map_eq_some_iff.1 hf
      obtain ⟨x0, h0, a0⟩ := Option.bind_eq_some_iff.1 hx
      obtain ⟨y0, b0, e0⟩ := Option.bind_eq_some_iff.1 a0
      obtain ⟨x1, h1, a1⟩ := Option.bind_eq_some_iff.1 b0
      obtain ⟨y1, b1, e1⟩ := Option.bind_eq_some_iff.1 a1
      obtain ⟨x2, h2, a2⟩ := Option.bind_eq_some_iff.1 b1
      obtain ⟨y2, b2, e2⟩ := Option.bind_eq_some_iff.1 a2
      obtain ⟨x3, h3, a3⟩ := Option.bind_eq_some_iff.1 b2
      obtain ⟨y3, b3, e3⟩ := Option.bind_eq_some_iff.1 a3
      obtain ⟨x4, h4, a4⟩ := Option.bind_eq_some_iff.1 b3
      obtain ⟨y4, b4, e4⟩ := Option.bind_eq_some_iff.1 a4
      obtain ⟨x5, h5, a5⟩ := Option.bind_eq_some_iff.1 b4
      obtain ⟨y5, b5, e5⟩ := Option.bind_eq_some_iff.1 a5
      obtain ⟨x6, h6, a6⟩ := Option.bind_eq_some_iff.1 b5
      obtain ⟨y6, b6, e6⟩ := Option.bind_eq_some_iff.1 a6
      obtain ⟨x7, h7, a7⟩ := Option.bind_eq_some_iff.1 b6
      obtain ⟨y7, b7, e7⟩ := Option.bind_eq_some_iff.1 a7
      obtain ⟨n0, g0, rfl, w0⟩ := DataW.trod_int he h0
      obtain ⟨n1, g1, rfl, w1⟩ := DataW.trod_int he h1
      obtain ⟨n2, g2, rfl, w2⟩ := DataW.trod_int he h2
      obtain ⟨n3, g3, rfl, w3⟩ := DataW.trod_int he h3
      obtain ⟨n4, g4, rfl, w4⟩ := DataW.trod_int he h4
      obtain ⟨n5, g5, rfl, w5⟩ := DataW.trod_int he h5
      obtain ⟨n6, g6, rfl, w6⟩ := DataW.trod_int he h6
      obtain ⟨n7, g7, rfl, w7⟩ := DataW.trod_int he h7
      cases g0; cases g1; cases g2; cases g3; cases g4; cases g5; cases g6; cases g7
      simp only [Option.some.injEq] at b7 e0 e1 e2 e3 e4 e5 e6 e7
      subst b7 e7 e6 e5 e4 e3 e2 e1 e0
      simp only [List.map_cons, List.map_nil, List.flatMap_cons, List.flatMap_nil, List.append_nil, Prod.mk.injEq] at hd
      obtain ⟨rfl, rfl⟩ := hd
      refine ⟨[n0, n1, n2, n3, n4, n5, n6, n7], rfl, rfl, rfl, rfl, fun n hn => ?_⟩
      simp only [List.mem_cons, List.not_mem_nil, or_false] at hn
      rcases hn with rfl | rfl | rfl | rfl | rfl | rfl | rfl | rfl <;> assumption
theorem shut_words {t e : TypeId} {l : List Int} (ht : P.underlying t = some (.array 8 e)) (he : P.underlying e = some (.int .u64)) (hc : P.cellsOf t = 8) (hce : P.cellsOf e = 1) (hl : l.length = 8) (hw : ∀ n, n ∈ l -> (Lit.int .u64 n).wf = true) :
    DataW.Trod enc P W base spare held t (.agg ⟨l.map (.int .u64)⟩) (.agg (l.map fun n => .lit (.int .u64 n))) [] := by
  match l, hl with
  | [n0, n1, n2, n3, n4, n5, n6, n7], _ =>
    refine ⟨2, ?_⟩
    have h : ∀ n, n ∈ [n0, n1, n2, n3, n4, n5, n6, n7] -> DataW.trod enc P W base spare held 1 e [.int .u64 n] = some (.lit (.int .u64 n), []) := fun n hn => by
      simp only [DataW.trod, he, hw n hn, and_self, if_true]
    unfold DataW.trod
    simp only [ht, Value.cells, List.map_cons, List.map_nil, List.length_cons, List.length_nil, hc, hce, if_true, show List.range 8 = [0, 1, 2, 3, 4, 5, 6, 7] from rfl, List.mapM_cons, List.mapM_nil, Nat.mul_one, List.drop_zero, List.drop_succ_cons, List.take_succ_cons, List.take_zero, Option.pure_def, Option.bind_eq_bind, Nat.zero_add, Nat.reduceAdd]
    rw [h n0 (by simp), h n1 (by simp), h n2 (by simp), h n3 (by simp), h n4 (by simp), h n5 (by simp), h n6 (by simp), h n7 (by simp)]
    rfl
end Go.Am
