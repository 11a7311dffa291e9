/-
  Texts of my own, put together: LTC, LTD, T, X1.
-/
import Derived.Test.YtfgincdpgdlfnaaDoorGrLimbTexts27
import Derived.Test.YtfgincdpgdlfnaaDoorGrLimbTexts8
import Derived.Lib.LaidTab
import Derived.ChangeShapes
import Derived.Test.YtfgincdpgdlfnaaDoorGrLimbTexts0
set_option linter.unusedSimpArgs false
set_option linter.unusedVariables false
set_option maxRecDepth 100000
namespace Go.Am.Seat
open Go.Proofs Go.Am Go.Am.Num Go.Am.Kn
structure LtAll (slf : Self) : Prop where
  pa : CPaW slf
  de : CDecW slf
  bt : CByW slf
  dg : CDgW slf
  wo : COfW slf
  nu : CNumW slf
  ro : COf slf
  rc : CCmp slf
  rd : CDec slf
  br : CByR slf
  aw : ∀ X, ainv E slf 4 [] (mem1 ++ X) = some (.bool true, mem1 ++ X)
theorem laidW (M : Mem) (x : Nat) : ∃ m1 m2, aalloc E.P 24 M = some (.pointer (some ⟨M.length, 0, none⟩), m1) ∧ astore E.P 24 (.pointer (some ⟨M.length, 0, none⟩)) (wd x) m1 = some m2 ∧ m2[M.length]? = some (.row false 24 (rowOf (wN x))) ∧ Kept M m2 := by
  have ha := alloc24 M
  have g : (M ++ [Blk.row false 24 (rowOf fun _ => 0)])[M.length]? = some (.row false 24 (rowOf fun _ => 0)) := by rw [List.getElem?_append_right (Nat.le_refl _)]; simp
  have st := store24 (w := wN x) g (rowOf_length _)
  refine ⟨_, _, ha, st, by rw [List.getElem?_set_self (lt_of_at g)], by simp, fun j hj => ?_⟩
  rw [List.getElem?_set_ne (by omega), List.getElem?_append_left hj]
theorem keptAt {m m' : Mem} {k : Nat} {b : Blk} (h : Kept m m') (g : m[k]? = some b) : m'[k]? = some b := (h.2 k (lt_of_at g)).trans g
theorem dig64T {x : Nat} (h : x < W8) : (dig x).length ≤ 64 := dig_len_le (by rw [← W8_256]; exact h)
theorem cmpSelf (r : Nat) : cmpN r r = 0 := by unfold cmpN; rw [if_neg (Nat.lt_irrefl r), if_neg (Nat.lt_irrefl r)]
theorem lenGt (r : Nat) : decide ((((dig r).length : Nat) : Int) > 64) = !decide (r < W8) := by
  by_cases h : r < W8
  · have h1 := dig64T h
    rw [decide_eq_true h, decide_eq_false (by omega)]
    rfl
  · have h1 : 64 < (dig r).length := dig_len_ge (by rw [← W8_256]; omega)
    rw [decide_eq_false h, decide_eq_true (by omega)]
    rfl
section
variable {self : Self} {nf : Nat} {m M : Mem} {F : Nat → Value} {p q x n : Nat} {s : ByteArray}
theorem llt_par (rl : LtAll self) (h0 : F 0 = .string s) (hs : s.data.toList.length ≤ 300) :
    ∃ A G M1 M2, acodeN E self nf (.region 5 rllt_5 false) (lst F 119) M = some (.normal, lst A 119, M1) ∧ acodeN E self nf (.seq (.region 6 rllt_6 false) (.cond (.tmp 28) (.seq (.region 7 rllt_7 false) (.cond (.tmp 35) (.seq (.region 8 rllt_8 false) .ret) .skip)) (.seq (.region 9 rllt_9 false) (.cond (.tmp 45) (.seq (.region 10 rllt_10 false) .ret) .skip)))) (lst A 119) M1 = some (.normal, lst G 119, M2) ∧ Kept M M2 ∧ ∀ j, j < 6 → G j = F j := by
  have hnl := natsOf_len s
  have hc := rl.pa s
  unfold parAns at hc
  rw [hnl] at hc
  by_cases h64 : s.data.toList.length ≤ 64
  · rw [if_pos h64] at hc
    have hv := val_64 (natsOf_lt s) (by omega)
    obtain ⟨m1, M1, ha, st, g, k1⟩ := laidW M (val (natsOf s))
    obtain ⟨A, ra, a7, a8, ak⟩ := llt_5 (self := self) (nf := nf) h0 (hc M) ha st
    obtain ⟨B, rb', b28, bk⟩ := llt_6 (self := self) (nf := nf) (m := M1) (b := false) ((ak 0 (by omega)).trans h0) (decide_eq_false (by omega))
    obtain ⟨N, m2, e1, n1⟩ := rl.nu M1 (val (natsOf s)) hv
    obtain ⟨V, m3, e2, n2⟩ := rl.ro m2 s (by omega)
    have hl := dig64T hv
    have e3 := rl.rc m3 N V _ _ (n1.s.on n2.keeps).a n2.is (by omega) (by omega)
    rw [cmpSelf] at e3
    obtain ⟨C, rc, c45, ck⟩ := llt_9 (self := self) (nf := nf) ((bk 0 (by omega)).trans ((ak 0 (by omega)).trans h0)) ((bk 7 (by omega)).trans a7) ((bk 8 (by omega)).trans a8) (load24 g) e1 e2 e3
    refine ⟨A, C, M1, m3, ra, ?_, k1.trans (n1.keeps.trans n2.keeps), fun j hj => (ck j (by omega)).trans ((bk j (by omega)).trans (ak j hj))⟩
    clear hc e1 e2 e3 st ha
    generalize Code.region 6 rllt_6 false = C6 at *
    generalize Code.region 9 rllt_9 false = C9 at *
    simp only [acodeN, rb', rc, ev, nth_lst, Nat.reduceLT, if_true, b28, c45]
  · rw [if_neg h64] at hc
    obtain ⟨m1, M1, ha, st, g, k1⟩ := laidW M 0
    obtain ⟨A, ra, a7, a8, ak⟩ := llt_5 (self := self) (nf := nf) h0 (hc M) ha st
    obtain ⟨B, rb', b28, bk⟩ := llt_6 (self := self) (nf := nf) (m := M1) (b := true) ((ak 0 (by omega)).trans h0) (decide_eq_true (by omega))
    obtain ⟨C, rc, c35, ck⟩ := llt_7 (self := self) (nf := nf) (m := M1) ((bk 7 (by omega)).trans a7) ((bk 8 (by omega)).trans a8) (load24 g)
    refine ⟨A, C, M1, M1, ra, ?_, k1, fun j hj => (ck j (by omega)).trans ((bk j (by omega)).trans (ak j hj))⟩
    clear hc st ha
    generalize Code.region 6 rllt_6 false = C6 at *
    generalize Code.region 7 rllt_7 false = C7 at *
    simp only [acodeN, rb', rc, ev, nth_lst, Nat.reduceLT, if_true, b28, c35]
theorem llt_dec (rl : LtAll self) (h0 : F 0 = .string s) (hs : s.data.toList.length ≤ 300) (hG : E.G ≤ M.length) :
    ∃ A B G M1 M2 M3, acodeN E self nf (.region 11 rllt_11 false) (lst F 119) M = some (.normal, lst A 119, M1) ∧ acodeN E self nf (.region 12 rllt_12 false) (lst A 119) M1 = some (.normal, lst B 119, M2) ∧ acodeN E self nf (.block 0 (.seq (.region 15 rllt_15 false) (.cond (.tmp 65) (.seq (.region 16 rllt_16 false) (.cond (.tmp 69) (.seq (.region 17 rllt_17 false) .ret) .skip)) (.seq (.region 18 rllt_18 false) (.cond (.tmp 70) (.seq (.region 19 rllt_19 false) (.cond (.tmp 75) (.seq (.region 20 rllt_20 false) .ret) .skip)) (.seq (.region 13 rllt_13 false) (.cond (.tmp 64) (.seq (.region 14 rllt_14 false) .ret) .skip))))))) (lst B 119) M2 = some (.normal, lst G 119, M3) ∧ Kept M M3 ∧ ∀ j, j < 6 → G j = F j := by
  have hc := rl.de s (by omega) M hG
  unfold decAns at hc
  obtain ⟨X, eX, hce, hX8, hX⟩ : ∃ X eX, ainv E self 9 [.string s] M = some (.tuple ⟨[wd X, .int .i64 eX]⟩, M) ∧ X < W8 ∧ ((decOk (natsOf s) = false ∧ eX = 4) ∨ (decOk (natsOf s) = true ∧ W8 ≤ decV (natsOf s) ∧ eX = 7) ∨ (decOk (natsOf s) = true ∧ decV (natsOf s) < W8 ∧ eX = 0 ∧ X = decV (natsOf s))) := by
    by_cases hok : decOk (natsOf s) = true
    · rw [if_pos hok] at hc
      by_cases hlt : decV (natsOf s) < W8
      · rw [if_pos hlt] at hc
        exact ⟨_, _, hc, hlt, .inr (.inr ⟨hok, hlt, rfl, rfl⟩)⟩
      · rw [if_neg hlt] at hc
        exact ⟨_, _, hc, W8_pos, .inr (.inl ⟨hok, by omega, rfl⟩)⟩
    · rw [if_neg hok] at hc
      exact ⟨_, _, hc, W8_pos, .inl ⟨by simpa using hok, rfl⟩⟩
  clear hc
  obtain ⟨m1, M1, ha, st, g, k1⟩ := laidW M X
  obtain ⟨A, ra, a9, a8, ak⟩ := llt_11 (self := self) (nf := nf) h0 hce ha st
  obtain ⟨N, M2, e1, alt⟩ := rl.rd M1 s (by omega)
  obtain ⟨B, rb', b10, b11, bk⟩ := llt_12 (self := self) (nf := nf) ((ak 0 (by omega)).trans h0) e1
  obtain ⟨C, rc, c65, ck⟩ := llt_15 (self := self) (nf := nf) (m := M2) b11
  have kc : ∀ j, j < 6 → C j = F j := fun j hj => (ck j (by omega)).trans ((bk j (by omega)).trans (ak j hj))
  have c8 := (ck 8 (by omega)).trans ((bk 8 (by omega)).trans a8)
  have c9 := (ck 9 (by omega)).trans ((bk 9 (by omega)).trans a9)
  have c10 := (ck 10 (by omega)).trans b10
  rcases alt with ⟨hno, rfl, rfl⟩ | ⟨hok, nN⟩
  · rw [hno] at c65
    have he : eX = 4 := by
      rcases hX with ⟨_, h⟩ | ⟨h, _⟩ | ⟨h, _⟩
      · exact h
      · rw [hno] at h; cases h
      · rw [hno] at h; cases h
    subst he
    obtain ⟨D, rd, d69, dk⟩ := llt_16 (self := self) (nf := nf) (m := M2) c8
    refine ⟨A, B, D, M2, M2, M2, ra, rb', ?_, k1, fun j hj => (dk j (by omega)).trans (kc j hj)⟩
    clear hce e1 st ha
    generalize Code.region 15 rllt_15 false = C15 at *
    generalize Code.region 16 rllt_16 false = C16 at *
    simp only [acodeN, rc, rd, ev, nth_lst, Nat.reduceLT, if_true, c65, d69, Bool.not_false]
  · rw [hok] at c65
    obtain ⟨D, rd, d70, dk⟩ := llt_18 (self := self) (nf := nf) (m := M2) (F := C) c10 nN.is.1 (lenGt _)
    by_cases hlt : decV (natsOf s) < W8
    · rw [decide_eq_true hlt] at d70
      have he : eX = 0 ∧ X = decV (natsOf s) := by
        rcases hX with ⟨h, _⟩ | ⟨_, h, _⟩ | ⟨_, _, h1, h2⟩
        · rw [hok] at h; cases h
        · omega
        · exact ⟨h1, h2⟩
      obtain ⟨he1, he2⟩ := he
      subst he1
      have hl := dig64T hlt
      obtain ⟨V, m4, e2, n1⟩ := rl.nu M2 X hX8
      have e3 := rl.rc m4 V N _ _ n1.is (nN.s.on n1.keeps).a (by rw [he2]; omega) (by omega)
      rw [he2, cmpSelf] at e3
      obtain ⟨H, rh, h64, hk⟩ := llt_13 (self := self) (nf := nf) ((dk 9 (by omega)).trans c9) ((dk 8 (by omega)).trans c8) ((dk 10 (by omega)).trans c10) (load24 (keptAt nN.keeps g)) e2 e3
      refine ⟨A, B, H, M1, M2, m4, ra, rb', ?_, k1.trans (nN.keeps.trans n1.keeps), fun j hj => (hk j (by omega)).trans ((dk j (by omega)).trans (kc j hj))⟩
      clear hce e1 e2 e3 st ha
      generalize Code.region 15 rllt_15 false = C15 at *
      generalize Code.region 18 rllt_18 false = C18 at *
      generalize Code.region 13 rllt_13 false = C13 at *
      simp only [acodeN, rc, rd, rh, ev, nth_lst, Nat.reduceLT, if_true, c65, d70, h64, Bool.not_true]
    · rw [decide_eq_false hlt] at d70
      have he : eX = 7 := by
        rcases hX with ⟨h, _⟩ | ⟨_, _, h⟩ | ⟨_, h1, _⟩
        · rw [hok] at h; cases h
        · exact h
        · exact absurd h1 hlt
      subst he
      obtain ⟨H, rh, h75, hk⟩ := llt_19 (self := self) (nf := nf) (m := M2) ((dk 8 (by omega)).trans c8)
      refine ⟨A, B, H, M1, M2, M2, ra, rb', ?_, k1.trans nN.keeps, fun j hj => (hk j (by omega)).trans ((dk j (by omega)).trans (kc j hj))⟩
      clear hce e1 st ha
      generalize Code.region 15 rllt_15 false = C15 at *
      generalize Code.region 18 rllt_18 false = C18 at *
      generalize Code.region 19 rllt_19 false = C19 at *
      simp only [acodeN, rc, rd, rh, ev, nth_lst, Nat.reduceLT, if_true, c65, d70, h75, Bool.not_true, Bool.not_false]
theorem llt_back (rl : LtAll self) (h2 : F 2 = U n) (h4 : F 4 = .pointer (some ⟨p, 0, none⟩)) (gp : M[p]? = some (.row false 24 (rowOf (wN x)))) (hx : x < W8) (hn : n < 18446744073709551616) (hG : E.G ≤ M.length) (hT : TabT M) :
    ∃ A B C M1 M2 M3, acodeN E self nf (.region 21 rllt_21 false) (lst F 119) M = some (.normal, lst A 119, M1) ∧ acodeN E self nf (.region 22 rllt_22 false) (lst A 119) M1 = some (.normal, lst B 119, M2) ∧ acodeN E self nf (.region 23 rllt_23 true) (lst B 119) M2 = some (.normal, lst C 119, M3) ∧ C 6 = .bool true := by
  have hb := rl.bt x hx
  have hv : val (natsOf (byS (wN x))) = x := val_byS hx
  have hc := rl.pa (byS (wN x))
  unfold parAns at hc
  rw [if_pos (by rw [natsOf_len, byS_list]; omega), hv] at hc
  obtain ⟨m1, M1, ha, st, g1, k1⟩ := laidW M x
  obtain ⟨A, ra, a12, a13, ak⟩ := llt_21 (self := self) (nf := nf) h4 (load24 gp) (hb M) (hc M) ha st
  have hT1 := hT.keep k1
  obtain ⟨t, o1, o2, o3, dg⟩ := rl.dg x hx M1 hT1
  have hd := rl.de t (by rw [← natsOf_len]; omega) M1 (by have := k1.1; omega)
  unfold decAns at hd
  rw [if_pos o1, o2, if_pos hx] at hd
  obtain ⟨m2, M2, ha2, st2, g2, k2⟩ := laidW M1 x
  obtain ⟨B, rb', b14, b15, bk⟩ := llt_22 (self := self) (nf := nf) ((ak 4 (by omega)).trans h4) (load24 (keptAt k1 gp)) dg hd ha2 st2
  obtain ⟨N, M3, e1, n1⟩ := rl.nu M2 x hx
  have e2 := rl.br (M3.map Am.sealed) N x n1.is.sealed hx
  obtain ⟨C, rc, c6⟩ := llt_23 (self := self) (nf := nf) ((bk 2 (by omega)).trans ((ak 2 (by omega)).trans h2)) ((bk 4 (by omega)).trans ((ak 4 (by omega)).trans h4)) ((bk 12 (by omega)).trans a12) ((bk 13 (by omega)).trans a13) b14 b15 hx hn (keptAt (k1.trans k2) gp) (keptAt k2 g1) g2 n1.keeps (t := byS (wN x)) hb e1 e2 (rl.wo n hn)
  exact ⟨A, B, C, M1, M2, M3, ra, rb', rc, c6⟩
theorem llt_body (rl : LtAll self) (hx : x < W8) (hn : n < 18446744073709551616) : ∃ m', abody E self nf 3 [.string s, wd x, U n] mem1 = some (.bool true, m') := by
  rw [abody_eqF (by kernel_rfl) Tryd.func3 bodyllt (by kernel_rfl) (Nat.le_of_ble_eq_true rfl)]
  rw [show Tryd.f3.ntmps = 119 from rfl]
  have b1 : abox E.P 24 (wd x) mem1 = some (.pointer (some ⟨mem1.length, 0, none⟩), mem1 ++ [.row false 24 (rowOf (wN x))]) := box24 (wN x) mem1
  obtain ⟨M, hM⟩ : ∃ M, M = mem1 ++ [Blk.row false 24 (rowOf (wN x))] := ⟨_, rfl⟩
  have gp : M[mem1.length]? = some (.row false 24 (rowOf (wN x))) := by rw [hM]; simp
  have hA : ainv E self 4 [] M = some (.bool true, M) := by rw [hM]; exact rl.aw _
  have hT : TabT M := by rw [hM]; exact tabT_mem1 _
  have hG : E.G ≤ M.length := by rw [hM, List.length_append]; exact Nat.le_add_right_of_le (show E.G ≤ mem1.length by decide)
  rw [← hM] at b1
  clear hM
  obtain ⟨P0, hP0⟩ : ∃ k, k = mem1.length := ⟨_, rfl⟩
  rw [← hP0] at b1 gp
  obtain ⟨A0, r0, a4, k0⟩ := llt_0 (self := self) (nf := nf) (F := init [.string s, wd x, U n]) rfl b1
  obtain ⟨A1, r1, c17, k1⟩ := llt_1 (self := self) (nf := nf) (F := A0) hA
  have k01 : ∀ j, j < 4 → A1 j = init [.string s, wd x, U n] j := fun j hj => (k1 j (by omega)).trans (k0 j hj)
  by_cases hs : s.data.toList.length ≤ 300
  · obtain ⟨A3, r3, c20, k3⟩ := llt_3 (self := self) (nf := nf) (m := M) (b := false) ((k01 0 (by omega)).trans rfl) (decide_eq_false (by omega))
    obtain ⟨A5, A6, M5, M6, r5, r6, kp, k6⟩ := llt_par (self := self) (nf := nf) (M := M) rl ((k3 0 (by omega)).trans ((k01 0 (by omega)).trans rfl)) hs
    obtain ⟨B1, B2, B3, N1, N2, N3, r11, r12, r15, kp2, k7⟩ := llt_dec (self := self) (nf := nf) (M := M6) rl ((k6 0 (by omega)).trans ((k3 0 (by omega)).trans ((k01 0 (by omega)).trans rfl))) hs (by have := kp.1; omega)
    have kk : ∀ j, j < 6 → B3 j = A1 j := fun j hj => (k7 j hj).trans ((k6 j hj).trans (k3 j (by omega)))
    have kp3 := kp.trans kp2
    obtain ⟨D1, D2, D3, L1, L2, L3, r21, r22, r23, c6⟩ := llt_back (self := self) (nf := nf) (M := N3) (x := x) (n := n) rl ((kk 2 (by omega)).trans ((k01 2 (by omega)).trans rfl)) ((kk 4 (by omega)).trans ((k1 4 (by omega)).trans a4)) (keptAt kp3 gp) hx hn (by have := kp3.1; omega) (hT.keep kp3)
    refine ⟨L3, ?_⟩
    clear rl b1 hA gp kp kp2 kp3 hT hG
    generalize wd x = X at *
    generalize Code.region 0 rllt_0 false = C0 at *
    generalize Code.region 1 rllt_1 false = C1 at *
    generalize Code.region 3 rllt_3 false = C3 at *
    generalize Code.region 5 rllt_5 false = C5 at *
    generalize Code.seq (.region 6 rllt_6 false) (.cond (.tmp 28) (.seq (.region 7 rllt_7 false) (.cond (.tmp 35) (.seq (.region 8 rllt_8 false) .ret) .skip)) (.seq (.region 9 rllt_9 false) (.cond (.tmp 45) (.seq (.region 10 rllt_10 false) .ret) .skip))) = C6 at *
    generalize Code.region 11 rllt_11 false = C11 at *
    generalize Code.region 12 rllt_12 false = C12 at *
    generalize Code.block 0 (.seq (.region 15 rllt_15 false) (.cond (.tmp 65) (.seq (.region 16 rllt_16 false) (.cond (.tmp 69) (.seq (.region 17 rllt_17 false) .ret) .skip)) (.seq (.region 18 rllt_18 false) (.cond (.tmp 70) (.seq (.region 19 rllt_19 false) (.cond (.tmp 75) (.seq (.region 20 rllt_20 false) .ret) .skip)) (.seq (.region 13 rllt_13 false) (.cond (.tmp 64) (.seq (.region 14 rllt_14 false) .ret) .skip)))))) = C15 at *
    generalize Code.region 21 rllt_21 false = C21 at *
    generalize Code.region 22 rllt_22 false = C22 at *
    generalize Code.region 23 rllt_23 true = C23 at *
    simp only [acodeN, r0, r1, r3, r5, r6, r11, r12, r15, r21, r22, r23, ev, nth_lst, Nat.reduceLT, if_true, c17, c20, c6, finish, ares, aresL, ares1, Tryd.f3, Option.map_some]
  · obtain ⟨A3, r3, c20, k3⟩ := llt_3 (self := self) (nf := nf) (m := M) (b := true) ((k01 0 (by omega)).trans rfl) (decide_eq_true (by omega))
    obtain ⟨A4, r4, c6⟩ := llt_4 (self := self) (nf := nf) (m := M) (F := A3)
    refine ⟨M, ?_⟩
    clear rl b1 hA gp hT hG
    generalize wd x = X at *
    generalize Code.region 0 rllt_0 false = C0 at *
    generalize Code.region 1 rllt_1 false = C1 at *
    generalize Code.region 3 rllt_3 false = C3 at *
    generalize Code.region 4 rllt_4 false = C4 at *
    simp only [acodeN, r0, r1, r3, r4, ev, nth_lst, Nat.reduceLT, if_true, c17, c20, c6, finish, ares, aresL, ares1, Tryd.f3, Option.map_some]
end
end Go.Am.Seat
namespace Go.Am.Seat
open Go.Proofs Go.Am Go.Am.Num Go.Am.Kn
section
variable {R : Nat → Self} {K : List Fact} (hR : Runs R K) (hK : NoL K) {n : Nat}
include hR
theorem kNdg (k1 : hasF K 40 = false) (k2 : hasF K 47 = false) (k3 : hasF K 48 = false) (hK : NoL K) (hn : 1002 ≤ n) {u : Nat} (h0 : 0 < u) (hu : u < 18446744073709551616) : AnsP (R n) 40 [U u] (.int .i64 ((Lib.nDigits u : Nat) : Int)) := by
  obtain ⟨j, rfl⟩ : ∃ j, n = j + 1 := ⟨n - 1, by omega⟩
  obtain ⟨i, rfl⟩ : ∃ i, j = i + 1 := ⟨j - 1, by omega⟩
  refine ans_ofP rfl (by kernel_rfl) rfl fun m hm => ⟨m, hR.b k1 (ndg_body hm h0 hu (kLn hR hK (by omega) hu) (fun n hn => ans_of rfl (by kernel_rfl) rfl fun m => ⟨_, hR.b k2 (lgp_body hn)⟩) (fun b => ans_of rfl (by kernel_rfl) rfl fun m => ⟨_, hR.b k3 bto_body⟩))⟩
theorem kIfu (k1 : hasF K 40 = false) (k2 : hasF K 47 = false) (k3 : hasF K 48 = false) (k4 : hasF K 39 = false) (k5 : hasF K 41 = false) (k6 : hasF K 29 = false) (hK : NoL K) (hn : 1003 ≤ n) {u : Nat} (hu : u < 18446744073709551616) : ∃ t, natsOf t = decs u ∧ AnsP (R n) 29 [U u, .int .i64 10] (.string t) := by
  obtain ⟨j, rfl⟩ : ∃ j, n = j + 1 := ⟨n - 1, by omega⟩
  obtain ⟨i, rfl⟩ : ∃ i, j = i + 1 := ⟨j - 1, by omega⟩
  by_cases h : u < 100
  · obtain ⟨t, e1, e2⟩ := sml_body (self := R i) (nf := i + 1) (m := []) h
    have hs : Ans (R (i + 1)) 39 [.int .i64 ((u : Nat) : Int)] (.string t) := by
      refine ans_of rfl (by kernel_rfl) rfl fun m => ?_
      obtain ⟨t', e3, e4⟩ := sml_body (self := R i) (nf := i + 1) (m := m) h
      rw [show t = t' from natsOf_inj (e1.trans e3.symm)]
      exact ⟨m, hR.b k4 e4⟩
    refine ⟨t, e1, ans_ofP rfl (by kernel_rfl) rfl fun m _ => ?_⟩
    obtain ⟨t', e3, e4⟩ := ifu_small (self := R (i + 1)) (nf := i + 1 + 1) (m := m) h ⟨t, e1, hs⟩
    rw [show t = t' from natsOf_inj (e1.trans e3.symm)]
    exact ⟨m, hR.b k6 e4⟩
  · have hd : Lib.nDigits u ≤ 20 := nDigits_le (by omega) (by omega)
    have hf : ∀ M q w, M[q]? = some (rb w) → ∃ u', (List.range (Lib.nDigits u)).map u' = padN (Lib.nDigits u) u ∧ (R (i + 1)) 41 [.slice (some ⟨q, 0, none⟩) (Lib.nDigits u) 24, U u] M = some (.tuple ⟨[]⟩, M.set q (rb u')) := fun M q w hq => by
      obtain ⟨u', e1, e2⟩ := fbt_body (self := R i) (nf := i + 1) (M := M) hq hu (Lib.lt_pow_nDigits u) (by omega) (by omega)
      exact ⟨u', e1, hR.b k5 e2⟩
    have hnd := kNdg (n := i + 1) hR k1 k2 k3 hK (by omega) (u := u) (by omega) hu
    obtain ⟨t, m', e1, e2⟩ := ifu_big (self := R (i + 1)) (nf := i + 1 + 1) (m := mem1) h hu (by rw [← List.append_nil mem1]; exact tabT_mem1 []) hnd hf
    refine ⟨t, e1, ans_ofP rfl (by kernel_rfl) rfl fun m hm => ?_⟩
    obtain ⟨t', m9, e3, e4⟩ := ifu_big (self := R (i + 1)) (nf := i + 1 + 1) (m := m) h hu hm hnd hf
    rw [show t = t' from natsOf_inj (e1.trans e3.symm)]
    exact ⟨m9, hR.b k6 e4⟩
theorem kFu (k1 : hasF K 40 = false) (k2 : hasF K 47 = false) (k3 : hasF K 48 = false) (k4 : hasF K 39 = false) (k5 : hasF K 41 = false) (k6 : hasF K 29 = false) (k7 : hasF K 23 = false) (hK : NoL K) (hn : 1004 ≤ n) : CFu (R n) := by
  obtain ⟨j, rfl⟩ : ∃ j, n = j + 1 := ⟨n - 1, by omega⟩
  intro u hu
  obtain ⟨t, e1, e2⟩ := kIfu (n := j) hR k1 k2 k3 k4 k5 k6 hK (by omega) hu
  exact ⟨t, e1, ans_ofP rfl (by kernel_rfl) rfl fun m hm => ⟨m, hR.b k7 (fmu_body e2 hm)⟩⟩
theorem kDgW (hf : ∀ k, n ≤ k + 1 → k < n → CFu (R k)) (k8 : hasF K 12 = false) (hK : NoL K) (hn : 1006 ≤ n) : CDgW (R n) := by
  obtain ⟨j, rfl⟩ : ∃ j, n = j + 1 := ⟨n - 1, by omega⟩
  intro x hx M hM
  have hfu := hf j (by omega) (by omega)
  have hw := kDw (n := j) hR hK (by omega)
  obtain ⟨s, m', e, o1, o2, o3⟩ := lgd_body (self := R j) (nf := j + 1) (m := (M.take E.G).map onlyTab) hw hfu hM.only hx (by omega)
  exact ⟨s, o1, o2, o3, ainv_lit (by simp only [List.all_cons, lit_wd]; rfl) (by kernel_rfl) (hR.b k8 e) rfl⟩
end
theorem ltAll : LtAll (runK E mem1 K1 2000) where
  pa := kPaW (R := RL) hRL rfl (by omega)
  de := kDecW (R := RL) hRL noL1 rfl rfl rfl (by omega)
  bt := kByW (R := RL) hRL rfl (by omega)
  dg := kDgW (R := RL) hRL (fun k h1 h2 => kFu (R := RL) hRL rfl rfl rfl rfl rfl rfl rfl noL1 (by omega)) rfl noL1 (by omega)
  wo := kOf (R := RL) hRL noL1 (by omega)
  nu := cnumW rfl rfl rfl (by omega)
  ro := cof (R := RL) (n := 1998) hRL rfl rfl (by omega)
  rc := ccmp (R := RL) (n := 1999) hRL rfl (by omega)
  rd := cdec (R := RL) (n := 1997) hRL rfl rfl rfl rfl rfl (by omega)
  br := cbyR (R := RL) (n := 1999) hRL rfl (by omega)
  aw := awake1_call
theorem lawLT (s : ByteArray) (w : Nat → Nat) (n : Nat) (hw : ∀ j, w j < 18446744073709551616) (hn : n < 18446744073709551616) : ∃ m', runK E mem1 K1 2001 3 [.string s, wide w, U n] mem1 = some (.bool true, m') := by
  rw [runK_other (rfl : hasF K1 3 = false), wide_num hw]
  exact llt_body ltAll (vN_lt hw 8) hn
theorem lawLTw (s : ByteArray) (a : List Int) (la : a.length = 8) (wa : ∀ n, n ∈ a → (Lit.int .u64 n).wf = true) (b : Int) (wb : (Lit.int .u64 b).wf = true) :
    ∃ m', runK E mem1 K1 2001 3 [.string s, .agg ⟨a.map (.int .u64)⟩, .int .u64 b] mem1 = some (.bool true, m') := by
  rw [words_wide la wa]
  have h1 : 0 ≤ b ∧ b < 18446744073709551616 := by
    have := wb
    simp [Lit.wf, IntKind.min, IntKind.max, IntKind.bits, IntKind.signed] at this
    omega
  obtain ⟨n, rfl⟩ : ∃ n : Nat, b = (n : Int) := ⟨b.toNat, by omega⟩
  exact lawLT s _ n (fnOf_lt wa) (by omega)
end Go.Am.Seat
namespace Go.Am
noncomputable section
def ren0 (P : Program) (m : Mem) : Ren := fun k => match m[k]? with
  | some (.tab e cs) => some ⟨k, cs.length, ((P.info? e).map (·.size)).getD 0⟩
  | some _ => some ⟨k, 0, 0⟩
  | none => none
def BlkAt (P : Program) (W : World) (k : Nat) : Blk → Prop
  | .dead => True
  | .tab e cs => W.heap[k]? = some (.cells ⟨cs⟩ e (0, 0)) ∧ (P.info? e).isSome = true ∧ cs.all lit0 = true
  | .row .. => False
theorem mr_tabs {P : Program} {m : Mem} {W : World} (hG : P.globals.size ≤ m.length) (hsize : m.length ≤ W.heap.size) (hb : ∀ k b, m[k]? = some b → BlkAt P W k b) : MR P (ren0 P m) m W := by
  have hr : ∀ k x, ren0 P m k = some x → k < m.length ∧ x.r = k := by
    intro k x h
    unfold ren0 at h
    cases hm : m[k]? with
    | none => rw [hm] at h; cases h
    | some b =>
      have hk : k < m.length := (List.getElem?_eq_some_iff.1 hm).1
      rw [hm] at h
      cases b <;> (cases h; exact ⟨hk, rfl⟩)
  have hs : ∀ k, k < m.length → ∃ x, ren0 P m k = some x ∧ x.r = k := by
    intro k hk
    have hm : m[k]? = some m[k] := by simp [hk]
    cases hq : m[k] with
    | dead => exact ⟨_, by unfold ren0; rw [hm, hq], rfl⟩
    | row ro e cs => exact ⟨_, by unfold ren0; rw [hm, hq], rfl⟩
    | tab e cs => exact ⟨_, by unfold ren0; rw [hm, hq], rfl⟩
  have hl : ∀ k ro e cs, look m k = some (ro, e, cs) → m[k]? = some (.tab e cs) := by
    intro k ro e cs h
    unfold look at h
    split at h
    · rename_i b hm
      have := hb k b hm
      cases b with
      | dead => simp [Blk.cells?] at h
      | row => exact absurd this id
      | tab e' cs' =>
        simp [Blk.cells?] at h
        obtain ⟨_, rfl, rfl⟩ := h
        exact hm
    · cases h
  refine ⟨fun k hk => ?_, fun k x h => ?_, fun g hg => hs g (by omega), fun k ro e cs h => ?_, fun k e cs k' ro' e' cs' x x' h => ?_, fun k e cs h => ?_⟩
  · unfold ren0
    rw [List.getElem?_eq_none hk]
  · obtain ⟨h1, h2⟩ := hr k x h
    omega
  · have hm := hl k ro e cs h
    obtain ⟨h1, h2, h3⟩ := hb k _ hm
    refine ⟨⟨k, cs.length, ((P.info? e).map (·.size)).getD 0⟩, ⟨cs⟩, (0, 0), by unfold ren0; rw [hm], h1, rfl, Nat.le_refl _, fun i u hu => ⟨u, by simpa using hu, .lit ?_⟩, fun _ => loose_zero _, ?_⟩
    · exact lit2_of_lit1 (lit1_of_lit0 (List.all_eq_true.1 h3 u (List.mem_of_getElem? hu)))
    · cases hi : P.info? e with
      | none => rw [hi] at h2; cases h2
      | some i => rfl
  · exact absurd (hb k _ h) id
  · obtain ⟨_, _, h3⟩ := hb k _ h
    intro v hv
    exact List.all_eq_true.1 h3 v hv
theorem shaped_at {P : Program} {W : World} (h : W.ShapedOpen P) {g : Nat} {t : TypeId} (hg : g < P.globals.size) (h0 : (((begin P (fun _ _ => 0) default).world.heap[g]?).bind Obj.row?).map (·.2) = some t) :
    ∃ cs, W.heap[g]? = some (.cells cs t (0, 0)) := by
  obtain ⟨⟨z, t'⟩, h1, h2⟩ := Option.map_eq_some_iff.1 h0
  simp only at h2
  subst h2
  obtain ⟨cs, hc, _⟩ := h.1 g z t' hg h1
  exact ⟨cs, hc⟩
theorem tab_at {P : Program} {W : World} {name : String} {k : IntKind} {zs : List Int} {g : Nat} {t : TypeId} {cs : Array Value} (hg : P.globalNamed name = some g) (hc : W.heap[g]? = some (.cells cs t (0, 0))) (h : Lib.TabIs P W name k zs) :
    W.heap[g]? = some (.cells ⟨zs.map (.int k)⟩ t (0, 0)) := by
  unfold Lib.TabIs World.var? at h
  rw [hg] at h
  simp only [Option.bind_some, hc] at h
  cases h
  exact hc
theorem laid_tail {P : Program} {x : String × DataW Unit} {r : List (String × DataW Unit)} {w : World} (h : laidMet P (x :: r) w) : laidMet P r w := by
  obtain ⟨ps, hv, hnd, hrows⟩ := h
  obtain ⟨n, d⟩ := x
  obtain ⟨g, t, cs, fuel, p, q, _, _, _, _, hq, rfl⟩ := hv
  exact ⟨q, hq, List.Nodup.sublist (List.sublist_append_right _ _) hnd, fun b off hm => hrows b off (List.mem_append_right _ hm)⟩
theorem below_of_ends {P : Program} {ρ : Ren} {m m1 : Mem} {w w1 : World} {v : Value} {e : Ending} (hm : ∀ (k : Nat) (e : TypeId) (cs : List Value), m[k]? ≠ some (Blk.row false e cs)) (hv : lit2 v = true) (h : Ends P ρ m w v m1 e w1) : e = .returned v ∧ Go.RowKit.Below w.heap.size w w1 := by
  obtain ⟨v', ρ1, rfl, hvr, _, hx⟩ := h
  refine ⟨?_, ⟨hx.os, hx.tape, hx.output, hx.size, fun r hr => hx.kept r hr fun k e cs _ hk _ => absurd hk (hm k e cs)⟩⟩
  rw [hvr.eq_of_lit2 hv]
end
end Go.Am
namespace Go.Am
variable {H : Type} {enc : TypeId × Value → H} {P : Program} {W : World} {base : Nat} {spare : Nat → Bool} {held : Bool}
theorem open_words {r : Reach} {b0 : Nat} {t e : TypeId} {v : Value} {d : DataW H} {ps : List MemPlace} (ht : P.underlying t = some (.array 8 e)) (he : P.underlying e = some (.int .u64)) (hc : P.cellsOf t = 8) (hce : P.cellsOf e = 1)
    (hval : Value.okWide P W r b0 t v) (hd : DataW.Trod enc P W base spare held t v d ps) :
    ∃ l : List Int, l.length = 8 ∧ v = .agg ⟨l.map (.int .u64)⟩ ∧ d = .agg (l.map fun n => .lit (.int .u64 n)) ∧ ps = [] ∧ ∀ n, n ∈ l → (Lit.int .u64 n).wf = true := by
  unfold Value.okWide at hval
  simp only [ht] at hval
  obtain ⟨⟨cs⟩, rfl, hsz, _⟩ := hval
  have hlen : cs.length = 8 := by rw [hc] at hsz; simpa using hsz
  obtain ⟨fuel, hf⟩ := hd
  cases fuel with
  | zero => simp [DataW.trod] at hf
  | succ fuel =>
    unfold DataW.trod at hf
    simp only [ht, Value.cells] at hf
    match cs, hlen with
    | [c0, c1, c2, c3, c4, c5, c6, c7], _ =>
      simp only [List.length_cons, List.length_nil, hc, hce, if_true, show List.range 8 = [0, 1, 2, 3, 4, 5, 6, 7] from rfl, List.mapM_cons, List.mapM_nil, Nat.mul_one, List.drop_zero, List.drop_succ_cons, List.take_succ_cons, List.take_zero, Option.pure_def, Option.bind_eq_bind, Nat.zero_add, Nat.reduceAdd] at hf
      obtain ⟨xs, hx, hd⟩ := Option.map_eq_some_iff.1 hf
      obtain ⟨x0, h0, a0⟩ := Option.bind_eq_some_iff.1 hx
      obtain ⟨y0, b0, e0⟩ := Option.bind_eq_some_iff.1 a0
      obtain ⟨x1, h1, a1⟩ := Option.bind_eq_some_iff.1 b0
      obtain ⟨y1, b1, e1⟩ := Option.bind_eq_some_iff.1 a1
      obtain ⟨x2, h2, a2⟩ := Option.bind_eq_some_iff.1 b1
      obtain ⟨y2, b2, e2⟩ := Option.bind_eq_some_iff.1 a2
      obtain ⟨x3, h3, a3⟩ := Option.bind_eq_some_iff.1 b2
      obtain ⟨y3, b3, e3⟩ := Option.bind_eq_some_iff.1 a3
      obtain ⟨x4, h4, a4⟩ := Option.bind_eq_some_iff.1 b3
      obtain ⟨y4, b4, e4⟩ := Option.bind_eq_some_iff.1 a4
      obtain ⟨x5, h5, a5⟩ := Option.bind_eq_some_iff.1 b4
      obtain ⟨y5, b5, e5⟩ := Option.bind_eq_some_iff.1 a5
      obtain ⟨x6, h6, a6⟩ := Option.bind_eq_some_iff.1 b5
      obtain ⟨y6, b6, e6⟩ := Option.bind_eq_some_iff.1 a6
      obtain ⟨x7, h7, a7⟩ := Option.bind_eq_some_iff.1 b6
      obtain ⟨y7, b7, e7⟩ := Option.bind_eq_some_iff.1 a7
      obtain ⟨n0, g0, rfl, w0⟩ := DataW.trod_int he h0
      obtain ⟨n1, g1, rfl, w1⟩ := DataW.trod_int he h1
      obtain ⟨n2, g2, rfl, w2⟩ := DataW.trod_int he h2
      obtain ⟨n3, g3, rfl, w3⟩ := DataW.trod_int he h3
      obtain ⟨n4, g4, rfl, w4⟩ := DataW.trod_int he h4
      obtain ⟨n5, g5, rfl, w5⟩ := DataW.trod_int he h5
      obtain ⟨n6, g6, rfl, w6⟩ := DataW.trod_int he h6
      obtain ⟨n7, g7, rfl, w7⟩ := DataW.trod_int he h7
      cases g0; cases g1; cases g2; cases g3; cases g4; cases g5; cases g6; cases g7
      simp only [Option.some.injEq] at b7 e0 e1 e2 e3 e4 e5 e6 e7
      subst b7 e7 e6 e5 e4 e3 e2 e1 e0
      simp only [List.map_cons, List.map_nil, List.flatMap_cons, List.flatMap_nil, List.append_nil, Prod.mk.injEq] at hd
      obtain ⟨rfl, rfl⟩ := hd
      refine ⟨[n0, n1, n2, n3, n4, n5, n6, n7], rfl, rfl, rfl, rfl, fun n hn => ?_⟩
      simp only [List.mem_cons, List.not_mem_nil, or_false] at hn
      rcases hn with rfl | rfl | rfl | rfl | rfl | rfl | rfl | rfl <;> assumption
theorem shut_words {t e : TypeId} {l : List Int} (ht : P.underlying t = some (.array 8 e)) (he : P.underlying e = some (.int .u64)) (hc : P.cellsOf t = 8) (hce : P.cellsOf e = 1) (hl : l.length = 8) (hw : ∀ n, n ∈ l → (Lit.int .u64 n).wf = true) :
    DataW.Trod enc P W base spare held t (.agg ⟨l.map (.int .u64)⟩) (.agg (l.map fun n => .lit (.int .u64 n))) [] := by
  match l, hl with
  | [n0, n1, n2, n3, n4, n5, n6, n7], _ =>
    refine ⟨2, ?_⟩
    have h : ∀ n, n ∈ [n0, n1, n2, n3, n4, n5, n6, n7] → DataW.trod enc P W base spare held 1 e [.int .u64 n] = some (.lit (.int .u64 n), []) := fun n hn => by
      simp only [DataW.trod, he, hw n hn, and_self, if_true]
    unfold DataW.trod
    simp only [ht, Value.cells, List.map_cons, List.map_nil, List.length_cons, List.length_nil, hc, hce, if_true, show List.range 8 = [0, 1, 2, 3, 4, 5, 6, 7] from rfl, List.mapM_cons, List.mapM_nil, Nat.mul_one, List.drop_zero, List.drop_succ_cons, List.take_succ_cons, List.take_zero, Option.pure_def, Option.bind_eq_bind, Nat.zero_add, Nat.reduceAdd]
    rw [h n0 (by simp), h n1 (by simp), h n2 (by simp), h n3 (by simp), h n4 (by simp), h n5 (by simp), h n6 (by simp), h n7 (by simp)]
    rfl
end Go.Am
