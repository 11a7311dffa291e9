/-
  Texts of my own, put together: KW1, KW2, KW3, KW4.
-/
import Derived.Test.YtgkolikpojpffaaDoorGrLimbReckons22
set_option linter.unusedSimpArgs false
set_option linter.unusedVariables false
set_option maxRecDepth 100000
namespace Go.Am.Seat
open Go.Proofs Go.Am Go.Am.Num Go.Am.Kn
def wN (x : Nat) (j : Nat) : Nat := x / 18446744073709551616 ^ j % 18446744073709551616
theorem wN_lt (x j : Nat) : wN x j < 18446744073709551616 := Nat.mod_lt _ (by decide)
theorem vN_wN (x : Nat) : ∀ n, vN (wN x) n = x % 18446744073709551616 ^ n
  | 0 => by rw [vN, Nat.pow_zero, Nat.mod_one]
  | n + 1 => by rw [vN, vN_wN x n, wN, Nat.pow_succ, Nat.mod_mul]
theorem vN_inj {w v : Nat -> Nat} (hw : ∀ j, w j < 18446744073709551616) (hv : ∀ j, v j < 18446744073709551616) : ∀ n, vN w n = vN v n -> ∀ j, j < n -> w j = v j
  | 0, _, j, h => absurd h (Nat.not_lt_zero j)
  | n + 1, h, j, hj => by
    rw [vN, vN] at h
    have h1 := vN_lt hw n
    have h2 := vN_lt hv n
    have hp : 0 < 18446744073709551616 ^ n := Nat.pow_pos (by decide)
    have e : vN w n = vN v n := by
      have a1 := Nat.add_mul_mod_self_left (vN w n) (18446744073709551616 ^ n) (w n)
      have a2 := Nat.add_mul_mod_self_left (vN v n) (18446744073709551616 ^ n) (v n)
      rw [h, a2, Nat.mod_eq_of_lt h1, Nat.mod_eq_of_lt h2] at a1
      exact a1.symm
    rcases Nat.lt_or_ge j n with h3 | h3
    . exact vN_inj hw hv n e j h3
    . have : j = n := by omega
      subst this
      rw [e] at h
      exact Nat.eq_of_mul_eq_mul_left hp (Nat.add_left_cancel h)
def W8 : Nat := 18446744073709551616 ^ 8
theorem W8_pos : 0 < W8 := Nat.pow_pos (by decide)
abbrev wd (x : Nat) : Value := wide (wN x)
theorem wide_ext {w v : Nat -> Nat} (h : ∀ j, j < 8 -> w j = v j) : wide w = wide v := by
  unfold wide rowOf
  congr 2
  apply List.map_congr_left
  intro j hj
  rw [h j (List.mem_range.1 hj)]
theorem wide_num {w : Nat -> Nat} (hw : ∀ j, w j < 18446744073709551616) : wide w = wd (vN w 8) := wide_ext (vN_inj hw (wN_lt _) 8 (by rw [vN_wN, Nat.mod_eq_of_lt (vN_lt hw 8)]))
theorem vN_wN8 {x : Nat} (hx : x < W8) : vN (wN x) 8 = x := by rw [vN_wN]; exact Nat.mod_eq_of_lt hx
theorem wN_zero : wN 0 = fun _ => 0 := funext fun j => by unfold wN; rw [Nat.zero_div]
theorem wd_zero : wd 0 = wide fun _ => 0 := by unfold wd; rw [wN_zero]
theorem wd_small {x : Nat} (hx : x < 18446744073709551616) : wd x = wide fun j => if j = 0 then x else 0 := wide_ext fun j hj => by
  unfold wN
  by_cases h : j = 0
  . rw [if_pos h, h, Nat.pow_zero, Nat.div_one, Nat.mod_eq_of_lt hx]
  . rw [if_neg h]
    have h1 : 18446744073709551616 ^ 1 ≤ 18446744073709551616 ^ j := Nat.pow_le_pow_right (by decide) (by omega)
    rw [Nat.pow_one] at h1
    rw [Nat.div_eq_of_lt (Nat.lt_of_lt_of_le hx h1)]
theorem all_wN {x y : Nat} (hx : x < W8) (hy : y < W8) : ((List.range 8).all fun j => ((wN x j : Nat) : Int) == ((wN y j : Nat) : Int)) = decide (x = y) := by
  rw [Bool.eq_iff_iff, List.all_eq_true, decide_eq_true_eq]
  constructor
  . intro h
    have e : vN (wN x) 8 = vN (wN y) 8 := vN_ext fun j hj => by
      have := h j (List.mem_range.2 hj)
      simp at this
      omega
    rw [vN_wN8 hx, vN_wN8 hy] at e
    exact e
  . intro h j _
    rw [h]
    simp
theorem eqlWd {x y : Nat} {a b : Operand} (hx : x < W8) (hy : y < W8) : eqlVal E.P 24 a b (wd x) (wd y) = some (.bool (decide (x = y))) := by rw [eql24, all_wN hx hy]
theorem eqlWd0 {x : Nat} {a b : Operand} (hx : x < W8) : eqlVal E.P 24 a b (wd x) (wide fun _ => 0) = some (.bool (decide (x = 0))) := by rw [← wd_zero]; exact eqlWd hx W8_pos
theorem lit_wd (x : Nat) : lit2 (wd x) = true := by
  show (rowOf (wN x)).all lit0 = true
  rw [List.all_eq_true]
  intro v hv
  unfold rowOf at hv
  obtain ⟨j, _, rfl⟩ := List.mem_map.1 hv
  rfl
theorem Uses.uniq {w : Nat -> Nat} {n k : Nat} (h : Uses w n) (h' : Uses w k) : n = k := by
  obtain ⟨a1, a2, a3⟩ := h
  obtain ⟨b1, b2, b3⟩ := h'
  rcases Nat.lt_trichotomy n k with h | h | h
  . rcases b3 with h0 | h0
    . omega
    . exact absurd (a2 (k - 1) (by omega) (by omega)) h0
  . exact h
  . rcases a3 with h0 | h0
    . omega
    . exact absurd (b2 (n - 1) (by omega) (by omega)) h0
theorem Uses.num {w : Nat -> Nat} {n : Nat} (h : Uses w n) : vN w 8 = vN w n := by
  obtain ⟨h1, h2, _⟩ := h
  have := vN_zero (w := w) (n := n) (8 - n) fun j a b => h2 j a (by omega)
  rw [show n + (8 - n) = 8 by omega] at this
  exact this
def CUs (self : Self) : Prop := ∀ w : Nat -> Nat, ∃ n, Uses w n /\ Ans self 43 [wide w] (.int .i64 ((n : Nat) : Int))
def CCmpW (self : Self) : Prop := ∀ x y, x < W8 -> y < W8 -> Ans self 18 [wd x, wd y] (.int .i64 (cmpV x y))
def CDw (self : Self) : Prop := ∀ x d, x < W8 -> 0 < d -> d < 18446744073709551616 -> Ans self 46 [wd x, U d] (.tuple ⟨[wd (x / d), U (x % d)]⟩)
def CDlg (self : Self) : Prop := ∀ x y k, x < W8 -> y < W8 -> Uses (wN y) (k + 2) -> Ans self 47 [wd x, wd y] (.tuple ⟨[wd (x / y), wd (x % y)]⟩)
def COfW (self : Self) : Prop := ∀ x, x < 18446744073709551616 -> Ans self 29 [U x] (wd x)
def CAddW (self : Self) : Prop := ∀ x y, x < W8 -> y < W8 -> Ans self 9 [wd x, wd y] (.tuple ⟨[wd ((x + y) % W8), .bool (decide (x + y < W8))]⟩)
def CSubW (self : Self) : Prop := ∀ x y, x < W8 -> y < W8 -> Ans self 13 [wd x, wd y] (.tuple ⟨[wd ((x + (W8 - y)) % W8), .bool (decide (y ≤ x))]⟩)
def CPrd (self : Self) : Prop := ∀ x y, x < W8 -> y < W8 -> Ans self 42 [wd x, wd y] (.tuple ⟨[wd (x * y % W8), wd (x * y / W8)]⟩)
def CMulW (self : Self) : Prop := ∀ x y, x < W8 -> y < W8 -> Ans self 17 [wd x, wd y] (.tuple ⟨[wd (x * y % W8), .bool (decide (x * y < W8))]⟩)
def CDivW (self : Self) : Prop := ∀ x y, x < W8 -> y < W8 -> Ans self 21 [wd x, wd y] (if y = 0 then .tuple ⟨[wd 0, wd 0, .int .i64 9]⟩ else .tuple ⟨[wd (x / y), wd (x % y), .int .i64 0]⟩)
section
variable {self : Self} {nf : Nat} {m : Mem} {F : Nat -> Value} {w v o l : Nat -> Nat} {p q r s x y n : Nat}
theorem wdv_7 {m1 m2 : Mem} {d : Nat} (hd : d < 18446744073709551616) (h4 : F 4 = .pointer (some ⟨r, 0, none⟩)) (h5 : F 5 = .pointer (some ⟨s, 0, none⟩)) (h7 : F 7 = .pointer (some ⟨x, 0, none⟩)) (h8 : F 8 = U d) (l1 : aload E.P 24 (.pointer (some ⟨x, 0, none⟩)) m = some (wide o)) (l2 : aload E.P 24 (.pointer (some ⟨x, 0, none⟩)) (m.map sealed) = some (wide o)) (hof : ∀ M, ainv E self 29 [U d] M = some (wide l, M)) (st : astore E.P 24 (.pointer (some ⟨r, 0, none⟩)) (wide o) m = some m1) (st2 : astore E.P 24 (.pointer (some ⟨s, 0, none⟩)) (wide l) m1 = some m2) :
    ∃ F', acodeN E self nf (.region 7 rdv_7 true) (lst F 43) m = some (.normal, lst F' 43, m2) /\ F' 6 = .int .i64 0 /\ F' 4 = .pointer (some ⟨r, 0, none⟩) /\ F' 5 = .pointer (some ⟨s, 0, none⟩) := by
  simp only [↓ddv_7, ↓sdv_7, odv_7, agd_none, List.cons_append, List.nil_append, acodeN, adrawT, cls, astep, aop, afloat, ev, nth_lst, aput, setAt_lst, upd_at, Nat.reduceLT, Nat.reduceEqDiff, Option.map_some, List.map_cons, List.map_nil, List.isEmpty_nil, bls, if_true, if_false, List.length_map, h4, h5, h7, h8, l2, callOfW, hof, st, st2]
  exact ⟨_, rfl, rfl, by simp only [upd_at, Nat.reduceEqDiff, reduceIte, h4], by simp only [upd_at, Nat.reduceEqDiff, reduceIte, h5]⟩
theorem wdv_8 {m1 m2 m3 m4 : Mem} (h2 : F 2 = .pointer (some ⟨p, 0, none⟩)) (h3 : F 3 = .pointer (some ⟨q, 0, none⟩)) (ld : aload E.P 24 (.pointer (some ⟨p, 0, none⟩)) m = some (wide w)) (ld2 : aload E.P 24 (.pointer (some ⟨q, 0, none⟩)) m = some (wide v)) (hc : ∀ M, ainv E self 47 [wide w, wide v] M = some (.tuple ⟨[wide o, wide l]⟩, M)) (ha : aalloc E.P 24 m = some (.pointer (some ⟨x, 0, none⟩), m1)) (ha2 : aalloc E.P 24 m1 = some (.pointer (some ⟨y, 0, none⟩), m2)) (st : astore E.P 24 (.pointer (some ⟨x, 0, none⟩)) (wide o) m2 = some m3) (st2 : astore E.P 24 (.pointer (some ⟨y, 0, none⟩)) (wide l) m3 = some m4) :
    ∃ F', acodeN E self nf (.region 8 rdv_8 false) (lst F 43) m = some (.normal, lst F' 43, m4) /\ F' 9 = .pointer (some ⟨x, 0, none⟩) /\ F' 10 = .pointer (some ⟨y, 0, none⟩) /\ ∀ j, j < 7 -> F' j = F j := by
  have x0 : nth [wide o, wide l] 0 = wide o := rfl
  have x1 : nth [wide o, wide l] 1 = wide l := rfl
  simp only [odv_8, agd_none, List.cons_append, List.nil_append, acodeN, aopsN, astep, aop, ev, nth_lst, aput, setAt_lst, upd_at, Nat.reduceLT, Nat.reduceEqDiff, Option.map_some, List.map_cons, List.map_nil, List.isEmpty_nil, bls, if_true, if_false, h2, h3, ld, ld2, callDlg, hc, ha, ha2, st, st2, exW0, exW1]
  exact ⟨_, rfl, rfl, rfl, fun j h1 => by repeat rw [upd_ne (by omega)]⟩
structure Four (m M : Mem) (w v o l : Nat -> Nat) : Prop where
  len : M.length = m.length + 4
  p : M[m.length]? = some (.row false 24 (rowOf w))
  q : M[m.length + 1]? = some (.row false 24 (rowOf v))
  r : M[m.length + 2]? = some (.row false 24 (rowOf o))
  s : M[m.length + 3]? = some (.row false 24 (rowOf l))
theorem four (m : Mem) (w v : Nat -> Nat) : Four m (m ++ [Blk.row false 24 (rowOf w)] ++ [Blk.row false 24 (rowOf v)] ++ [.row false 24 (rowOf fun _ => 0)] ++ [.row false 24 (rowOf fun _ => 0)]) w v (fun _ => 0) (fun _ => 0) where
  len := by simp
  p := by rw [List.getElem?_append_left (by simp <;> omega), List.getElem?_append_left (by simp <;> omega), List.getElem?_append_left (by simp), List.getElem?_append_right (by simp)]; simp
  q := by rw [List.getElem?_append_left (by simp <;> omega), List.getElem?_append_left (by simp), List.getElem?_append_right (by simp)]; simp
  r := by rw [List.getElem?_append_left (by simp), List.getElem?_append_right (by simp)]; simp
  s := by rw [List.getElem?_append_right (by simp)]; simp
theorem four_allocs (m : Mem) (w v : Nat -> Nat) : ∃ m1 m2 m3 m4, abox E.P 24 (wide w) m = some (.pointer (some ⟨m.length, 0, none⟩), m1) /\ abox E.P 24 (wide v) m1 = some (.pointer (some ⟨m.length + 1, 0, none⟩), m2) /\ aalloc E.P 24 m2 = some (.pointer (some ⟨m.length + 2, 0, none⟩), m3) /\ aalloc E.P 24 m3 = some (.pointer (some ⟨m.length + 3, 0, none⟩), m4) /\ Four m m4 w v (fun _ => 0) (fun _ => 0) := by
  have l1 : (m ++ [Blk.row false 24 (rowOf w)]).length = m.length + 1 := by simp
  have l2 : (m ++ [Blk.row false 24 (rowOf w)] ++ [Blk.row false 24 (rowOf v)]).length = m.length + 2 := by simp
  have l3 : (m ++ [Blk.row false 24 (rowOf w)] ++ [Blk.row false 24 (rowOf v)] ++ [Blk.row false 24 (rowOf fun _ => 0)]).length = m.length + 3 := by simp
  have b2 := box24 v (m ++ [.row false 24 (rowOf w)])
  have b3 := alloc24 (m ++ [Blk.row false 24 (rowOf w)] ++ [Blk.row false 24 (rowOf v)])
  have b4 := alloc24 (m ++ [Blk.row false 24 (rowOf w)] ++ [Blk.row false 24 (rowOf v)] ++ [Blk.row false 24 (rowOf fun _ => 0)])
  rw [l1] at b2
  rw [l2] at b3
  rw [l3] at b4
  exact ⟨_, _, _, _, box24 w m, b2, b3, b4, four m w v⟩
theorem two_stored {m M : Mem} {w v o l a b : Nat -> Nat} (h : Four m M w v o l) : ∃ M1 M2, astore E.P 24 (.pointer (some ⟨m.length + 2, 0, none⟩)) (wide a) M = some M1 /\ astore E.P 24 (.pointer (some ⟨m.length + 3, 0, none⟩)) (wide b) M1 = some M2 /\ aload E.P 24 (.pointer (some ⟨m.length + 2, 0, none⟩)) M2 = some (wide a) /\ aload E.P 24 (.pointer (some ⟨m.length + 3, 0, none⟩)) M2 = some (wide b) := by
  have s1 := store24 (w := a) h.r (rowOf_length _)
  have g1 : (M.set (m.length + 2) (.row false 24 (rowOf a)))[m.length + 3]? = some (.row false 24 (rowOf l)) := by rw [List.getElem?_set_ne (by omega)]; exact h.s
  have s2 := store24 (w := b) g1 (rowOf_length _)
  refine ⟨_, _, s1, s2, ?_, ?_⟩
  . exact load24 (by rw [List.getElem?_set_ne (by omega), List.getElem?_set_self (lt_of_at h.r)])
  . exact load24 (by rw [List.getElem?_set_self (lt_of_at g1)])
theorem ne_beq {a b : Nat} (h : a ≠ b) : (a == b) = false := by simp [h]
theorem load24s {M : Mem} {k : Nat} {w : Nat -> Nat} {e : TypeId} (h : M[k]? = some (.row false e (rowOf w))) : aload E.P 24 (.pointer (some ⟨k, 0, none⟩)) (M.map sealed) = some (wide w) := load24 (ro := true) (e := e) (by rw [List.getElem?_map, h]; rfl)
theorem dv_zero (hv : ∀ i j, eqlVal E.P 24 i j (wide v) (wide fun _ => 0) = some (.bool true)) : ∃ m', abody E self nf 21 [wide w, wide v] m = some (.tuple ⟨[wide fun _ => 0, wide fun _ => 0, .int .i64 9]⟩, m') := by
  rw [abody_eqF (by kernel_rfl) Tryd.func21 bodydv (by kernel_rfl) (Nat.le_of_ble_eq_true rfl)]
  rw [show Tryd.f21.ntmps = 43 from rfl]
  obtain ⟨m1, m2, m3, M, hb, hc, hd, he, h4⟩ := four_allocs m w v
  obtain ⟨A, ra, a2, a3, a4, a5⟩ := wdv_0 (self := self) (nf := nf) (F := init [wide w, wide v]) hb hc hd he rfl rfl
  obtain ⟨B, rb, b13, bk⟩ := wdv_1 (self := self) (nf := nf) (b := true) a3 (load24 h4.q) hv
  obtain ⟨M1, M2, s1, s2, l1, l2⟩ := two_stored (a := fun _ => 0) (b := fun _ => 0) h4
  obtain ⟨C, rc, c6, c4, c5⟩ := wdv_2 (self := self) (nf := nf) ((bk 4 (by omega)).trans a4) ((bk 5 (by omega)).trans a5) s1 s2
  refine ⟨M2, ?_⟩
  generalize Code.region 0 rdv_0 false = C0 at *
  generalize Code.region 1 rdv_1 false = C1 at *
  generalize Code.region 2 rdv_2 false = C2 at *
  simp only [acodeN, ra, rb, rc, finish, ares, aresL, ares1, Tryd.f21, ev, nth_lst, Nat.reduceLT, if_true, b13, c4, c5, c6, l1, l2, Option.map_some]
theorem dv_less {c : Int} (hv : ∀ i j, eqlVal E.P 24 i j (wide v) (wide fun _ => 0) = some (.bool false)) (hc9 : ∀ M, ainv E self 18 [wide w, wide v] M = some (.int .i64 c, M)) (hb9 : decide (c < 0) = true) : ∃ m', abody E self nf 21 [wide w, wide v] m = some (.tuple ⟨[wide fun _ => 0, wide w, .int .i64 0]⟩, m') := by
  rw [abody_eqF (by kernel_rfl) Tryd.func21 bodydv (by kernel_rfl) (Nat.le_of_ble_eq_true rfl)]
  rw [show Tryd.f21.ntmps = 43 from rfl]
  obtain ⟨m1, m2, m3, M, hb, hc, hd, he, h4⟩ := four_allocs m w v
  obtain ⟨A, ra, a2, a3, a4, a5⟩ := wdv_0 (self := self) (nf := nf) (F := init [wide w, wide v]) hb hc hd he rfl rfl
  obtain ⟨B, rb, b13, bk⟩ := wdv_1 (self := self) (nf := nf) (b := false) a3 (load24 h4.q) hv
  obtain ⟨C, rc, c19, ck⟩ := wdv_3 (self := self) (nf := nf) (b := true) ((bk 2 (by omega)).trans a2) ((bk 3 (by omega)).trans a3) (load24 h4.p) (load24 h4.q) hc9 hb9
  obtain ⟨M1, M2, s1, s2, l1, l2⟩ := two_stored (a := fun _ => 0) (b := w) h4
  obtain ⟨D, rd, d6, d4, d5⟩ := wdv_4 (self := self) (nf := nf) (ne_beq (show m.length + 2 ≠ m.length by omega)) (ne_beq (show m.length + 3 ≠ m.length by omega)) ((ck 2 (by omega)).trans ((bk 2 (by omega)).trans a2)) ((ck 4 (by omega)).trans ((bk 4 (by omega)).trans a4)) ((ck 5 (by omega)).trans ((bk 5 (by omega)).trans a5)) (load24 h4.p) (load24s h4.p) s1 s2
  refine ⟨M2, ?_⟩
  generalize Code.region 0 rdv_0 false = C0 at *
  generalize Code.region 1 rdv_1 false = C1 at *
  generalize Code.region 2 rdv_2 false = C2 at *
  generalize Code.region 3 rdv_3 false = C3 at *
  generalize Code.region 4 rdv_4 true = C4 at *
  simp only [acodeN, ra, rb, rc, rd, finish, ares, aresL, ares1, Tryd.f21, ev, nth_lst, Nat.reduceLT, if_true, b13, c19, d4, d5, d6, l1, l2, Option.map_some]
theorem dv_word {c : Int} {d : Nat} (hd9 : d < 18446744073709551616) (hv0 : v 0 < 18446744073709551616) (hv : ∀ i j, eqlVal E.P 24 i j (wide v) (wide fun _ => 0) = some (.bool false)) (hc9 : ∀ M, ainv E self 18 [wide w, wide v] M = some (.int .i64 c, M)) (hb9 : decide (c < 0) = false)
    (hu : ∀ M, ainv E self 43 [wide v] M = some (.int .i64 ((1 : Nat) : Int), M)) (hdw : ∀ M, ainv E self 46 [wide w, U (v 0)] M = some (.tuple ⟨[wide o, U d]⟩, M)) (hof : ∀ M, ainv E self 29 [U d] M = some (wide l, M)) : ∃ m', abody E self nf 21 [wide w, wide v] m = some (.tuple ⟨[wide o, wide l, .int .i64 0]⟩, m') := by
  rw [abody_eqF (by kernel_rfl) Tryd.func21 bodydv (by kernel_rfl) (Nat.le_of_ble_eq_true rfl)]
  rw [show Tryd.f21.ntmps = 43 from rfl]
  obtain ⟨m1, m2, m3, M, hb, hc, hd, he, h4⟩ := four_allocs m w v
  obtain ⟨A, ra, a2, a3, a4, a5⟩ := wdv_0 (self := self) (nf := nf) (F := init [wide w, wide v]) hb hc hd he rfl rfl
  obtain ⟨B, rb, b13, bk⟩ := wdv_1 (self := self) (nf := nf) (b := false) a3 (load24 h4.q) hv
  obtain ⟨C, rc, c19, ck⟩ := wdv_3 (self := self) (nf := nf) (b := false) ((bk 2 (by omega)).trans a2) ((bk 3 (by omega)).trans a3) (load24 h4.p) (load24 h4.q) hc9 hb9
  have kc : ∀ j, j < 7 -> C j = A j := fun j hj => (ck j hj).trans (bk j hj)
  obtain ⟨D, rd, d24, dk⟩ := wdv_5 (self := self) (nf := nf) (b := true) ((kc 3 (by omega)).trans a3) (load24 h4.q) hu (by decide)
  have kd : ∀ j, j < 7 -> D j = A j := fun j hj => (dk j hj).trans (kc j hj)
  have ha := alloc24 M
  rw [h4.len] at ha
  have gx : (M ++ [Blk.row false 24 (rowOf fun _ => 0)])[m.length + 4]? = some (.row false 24 (rowOf fun _ => 0)) := by rw [← h4.len, List.getElem?_append_right (Nat.le_refl _)]; simp
  have st := store24 (w := o) gx (rowOf_length _)
  have cx : cellAt M (m.length + 1) 0 = some (U (v 0)) := by rw [cellAt_row h4.q, rowOf_get (by omega)]
  obtain ⟨G, rg, g7, g8, gk⟩ := wdv_6 (self := self) (nf := nf) ((kd 2 (by omega)).trans a2) ((kd 3 (by omega)).trans a3) (load24 h4.p) cx hdw ha st
  obtain ⟨N, hN⟩ : ∃ N, N = (M ++ [Blk.row false 24 (rowOf fun _ => 0)]).set (m.length + 4) (.row false 24 (rowOf o)) := ⟨_, rfl⟩
  rw [← hN] at rg
  have f4 : m.length + 4 < (M ++ [Blk.row false 24 (rowOf fun _ => 0)]).length := by simp [h4.len]
  have nx : N[m.length + 4]? = some (.row false 24 (rowOf o)) := by rw [hN, List.getElem?_set_self f4]
  have low : ∀ k, k < m.length + 4 -> N[k]? = M[k]? := fun k hk => by rw [hN, List.getElem?_set_ne (by omega), List.getElem?_append_left (by rw [h4.len]; exact hk)]
  have nr := (low (m.length + 2) (by omega)).trans h4.r
  have ns := (low (m.length + 3) (by omega)).trans h4.s
  clear hN st gx
  have s1 := store24 (w := o) nr (rowOf_length _)
  have g1 : (N.set (m.length + 2) (.row false 24 (rowOf o)))[m.length + 3]? = some (.row false 24 (rowOf fun _ => 0)) := by rw [List.getElem?_set_ne (by omega)]; exact ns
  have s2 := store24 (w := l) g1 (rowOf_length _)
  obtain ⟨H, rh, x6, x4, x5⟩ := wdv_7 (self := self) (nf := nf) hd9 ((gk 4 (by omega)).trans ((kd 4 (by omega)).trans a4)) ((gk 5 (by omega)).trans ((kd 5 (by omega)).trans a5)) g7 g8 (load24 nx) (load24s nx) hof s1 s2
  have l1 : aload E.P 24 (.pointer (some ⟨m.length + 2, 0, none⟩)) ((N.set (m.length + 2) (.row false 24 (rowOf o))).set (m.length + 3) (.row false 24 (rowOf l))) = some (wide o) := load24 (by rw [List.getElem?_set_ne (by omega), List.getElem?_set_self (lt_of_at nr)])
  have l2 : aload E.P 24 (.pointer (some ⟨m.length + 3, 0, none⟩)) ((N.set (m.length + 2) (.row false 24 (rowOf o))).set (m.length + 3) (.row false 24 (rowOf l))) = some (wide l) := load24 (by rw [List.getElem?_set_self (lt_of_at g1)])
  refine ⟨(N.set (m.length + 2) (.row false 24 (rowOf o))).set (m.length + 3) (.row false 24 (rowOf l)), ?_⟩
  generalize (N.set (m.length + 2) (.row false 24 (rowOf o))).set (m.length + 3) (.row false 24 (rowOf l)) = M2 at *
  generalize Code.region 0 rdv_0 false = C0 at *
  generalize Code.region 1 rdv_1 false = C1 at *
  generalize Code.region 2 rdv_2 false = C2 at *
  generalize Code.region 3 rdv_3 false = C3 at *
  generalize Code.region 4 rdv_4 true = C4 at *
  generalize Code.region 5 rdv_5 false = C5 at *
  generalize Code.region 6 rdv_6 false = C6 at *
  generalize Code.region 7 rdv_7 true = C7 at *
  simp only [acodeN, ra, rb, rc, rd, rg, rh, finish, ares, aresL, ares1, Tryd.f21, ev, nth_lst, Nat.reduceLT, if_true, b13, c19, d24, x4, x5, x6, l1, l2, Option.map_some]
theorem dv_long {c : Int} (hv : ∀ i j, eqlVal E.P 24 i j (wide v) (wide fun _ => 0) = some (.bool false)) (hc9 : ∀ M, ainv E self 18 [wide w, wide v] M = some (.int .i64 c, M)) (hb9 : decide (c < 0) = false)
    (hu : ∀ M, ainv E self 43 [wide v] M = some (.int .i64 ((n : Nat) : Int), M)) (hn : n ≠ 1) (hdw : ∀ M, ainv E self 47 [wide w, wide v] M = some (.tuple ⟨[wide o, wide l]⟩, M)) : ∃ m', abody E self nf 21 [wide w, wide v] m = some (.tuple ⟨[wide o, wide l, .int .i64 0]⟩, m') := by
  rw [abody_eqF (by kernel_rfl) Tryd.func21 bodydv (by kernel_rfl) (Nat.le_of_ble_eq_true rfl)]
  rw [show Tryd.f21.ntmps = 43 from rfl]
  obtain ⟨m1, m2, m3, M, hb, hc, hd, he, h4⟩ := four_allocs m w v
  obtain ⟨A, ra, a2, a3, a4, a5⟩ := wdv_0 (self := self) (nf := nf) (F := init [wide w, wide v]) hb hc hd he rfl rfl
  obtain ⟨B, rb, b13, bk⟩ := wdv_1 (self := self) (nf := nf) (b := false) a3 (load24 h4.q) hv
  obtain ⟨C, rc, c19, ck⟩ := wdv_3 (self := self) (nf := nf) (b := false) ((bk 2 (by omega)).trans a2) ((bk 3 (by omega)).trans a3) (load24 h4.p) (load24 h4.q) hc9 hb9
  have kc : ∀ j, j < 7 -> C j = A j := fun j hj => (ck j hj).trans (bk j hj)
  obtain ⟨D, rd, d24, dk⟩ := wdv_5 (self := self) (nf := nf) (b := false) ((kc 3 (by omega)).trans a3) (load24 h4.q) hu (by rw [beq_eq_false_iff_ne]; omega)
  have kd : ∀ j, j < 7 -> D j = A j := fun j hj => (dk j hj).trans (kc j hj)
  have ha := alloc24 M
  have ha2 := alloc24 (M ++ [Blk.row false 24 (rowOf fun _ => 0)])
  rw [List.length_append, List.length_singleton, h4.len] at ha2
  rw [h4.len] at ha
  obtain ⟨N, hN⟩ : ∃ N, N = M ++ [Blk.row false 24 (rowOf fun _ => 0)] ++ [Blk.row false 24 (rowOf fun _ => 0)] := ⟨_, rfl⟩
  rw [← hN] at ha2
  have gx : N[m.length + 4]? = some (.row false 24 (rowOf fun _ => 0)) := by rw [hN, List.getElem?_append_left (by simp [h4.len]), ← h4.len, List.getElem?_append_right (Nat.le_refl _)]; simp
  have gy : N[m.length + 5]? = some (.row false 24 (rowOf fun _ => 0)) := by rw [hN, List.getElem?_append_right (by simp [h4.len])]; simp [h4.len]
  have low : ∀ k, k < m.length + 4 -> N[k]? = M[k]? := fun k hk => by rw [hN, List.getElem?_append_left (by simp [h4.len]; omega), List.getElem?_append_left (by rw [h4.len]; exact hk)]
  clear hN
  have t1 := store24 (w := o) gx (rowOf_length _)
  have gy2 : (N.set (m.length + 4) (.row false 24 (rowOf o)))[m.length + 5]? = some (.row false 24 (rowOf fun _ => 0)) := by rw [List.getElem?_set_ne (by omega)]; exact gy
  have t2 := store24 (w := l) gy2 (rowOf_length _)
  obtain ⟨G, rg, g9, g10, gk⟩ := wdv_8 (self := self) (nf := nf) ((kd 2 (by omega)).trans a2) ((kd 3 (by omega)).trans a3) (load24 h4.p) (load24 h4.q) hdw ha ha2 t1 t2
  obtain ⟨O, hO⟩ : ∃ O, O = (N.set (m.length + 4) (.row false 24 (rowOf o))).set (m.length + 5) (.row false 24 (rowOf l)) := ⟨_, rfl⟩
  rw [← hO] at rg
  have ox : O[m.length + 4]? = some (.row false 24 (rowOf o)) := by rw [hO, List.getElem?_set_ne (by omega), List.getElem?_set_self (lt_of_at gx)]
  have oy : O[m.length + 5]? = some (.row false 24 (rowOf l)) := by rw [hO, List.getElem?_set_self (lt_of_at gy2)]
  have low2 : ∀ k, k < m.length + 4 -> O[k]? = M[k]? := fun k hk => by rw [hO, List.getElem?_set_ne (by omega), List.getElem?_set_ne (by omega)]; exact low k hk
  have nr := (low2 (m.length + 2) (by omega)).trans h4.r
  have ns := (low2 (m.length + 3) (by omega)).trans h4.s
  clear hO t1 t2 gx gy gy2 low
  have s1 := store24 (w := o) nr (rowOf_length _)
  have g1 : (O.set (m.length + 2) (.row false 24 (rowOf o)))[m.length + 3]? = some (.row false 24 (rowOf fun _ => 0)) := by rw [List.getElem?_set_ne (by omega)]; exact ns
  have s2 := store24 (w := l) g1 (rowOf_length _)
  obtain ⟨H, rh, x6, x4, x5⟩ := wdv_9 (self := self) (nf := nf) (ne_beq (show m.length + 2 ≠ m.length + 5 by omega)) (ne_beq (show m.length + 3 ≠ m.length + 5 by omega)) ((gk 4 (by omega)).trans ((kd 4 (by omega)).trans a4)) ((gk 5 (by omega)).trans ((kd 5 (by omega)).trans a5)) g9 g10 (load24s ox) (load24s oy) s1 s2
  have l1 : aload E.P 24 (.pointer (some ⟨m.length + 2, 0, none⟩)) ((O.set (m.length + 2) (.row false 24 (rowOf o))).set (m.length + 3) (.row false 24 (rowOf l))) = some (wide o) := load24 (by rw [List.getElem?_set_ne (by omega), List.getElem?_set_self (lt_of_at nr)])
  have l2 : aload E.P 24 (.pointer (some ⟨m.length + 3, 0, none⟩)) ((O.set (m.length + 2) (.row false 24 (rowOf o))).set (m.length + 3) (.row false 24 (rowOf l))) = some (wide l) := load24 (by rw [List.getElem?_set_self (lt_of_at g1)])
  refine ⟨(O.set (m.length + 2) (.row false 24 (rowOf o))).set (m.length + 3) (.row false 24 (rowOf l)), ?_⟩
  generalize (O.set (m.length + 2) (.row false 24 (rowOf o))).set (m.length + 3) (.row false 24 (rowOf l)) = M2 at *
  generalize Code.region 0 rdv_0 false = C0 at *
  generalize Code.region 1 rdv_1 false = C1 at *
  generalize Code.region 2 rdv_2 false = C2 at *
  generalize Code.region 3 rdv_3 false = C3 at *
  generalize Code.region 4 rdv_4 true = C4 at *
  generalize Code.region 5 rdv_5 false = C5 at *
  generalize Code.region 6 rdv_6 false = C6 at *
  generalize Code.region 7 rdv_7 true = C7 at *
  generalize Code.region 8 rdv_8 false = C8 at *
  generalize Code.region 9 rdv_9 true = C9 at *
  simp only [acodeN, ra, rb, rc, rd, rg, rh, finish, ares, aresL, ares1, Tryd.f21, ev, nth_lst, Nat.reduceLT, if_true, b13, c19, d24, x4, x5, x6, l1, l2, Option.map_some]
end
theorem dvw_body {self : Self} {nf : Nat} {m : Mem} {x y : Nat} (hx : x < W8) (hy : y < W8) (cc : CCmpW self) (cu : CUs self) (cw : CDw self) (cl : CDlg self) (co : COfW self) :
    ∃ m', abody E self nf 21 [wd x, wd y] m = some (if y = 0 then .tuple ⟨[wd 0, wd 0, .int .i64 9]⟩ else .tuple ⟨[wd (x / y), wd (x % y), .int .i64 0]⟩, m') := by
  by_cases h0 : y = 0
  . rw [if_pos h0]
    have := dv_zero (self := self) (nf := nf) (m := m) (w := wN x) (v := wN y) fun i j => by rw [eqlWd0 hy, decide_eq_true h0]
    rw [wd_zero]
    exact this
  . rw [if_neg h0]
    have hz : ∀ i j, eqlVal E.P 24 i j (wide (wN y)) (wide fun _ => 0) = some (.bool false) := fun i j => by rw [eqlWd0 hy, decide_eq_false h0]
    have hc := cc x y hx hy
    by_cases h1 : x < y
    . have := dv_less (self := self) (nf := nf) (m := m) (w := wN x) (v := wN y) hz hc (decide_eq_true (by unfold cmpV; rw [if_pos h1]; decide))
      rw [Nat.div_eq_of_lt h1, Nat.mod_eq_of_lt h1, wd_zero]
      exact this
    . have hn : decide (cmpV x y < 0) = false := decide_eq_false (by unfold cmpV; rw [if_neg h1]; split <;> decide)
      obtain ⟨n, hu, ha⟩ := cu (wN y)
      have hnum := hu.num
      rw [vN_wN8 hy] at hnum
      match n, hu, ha, hnum with
      | 0, hu, ha, hnum => exact absurd hnum h0
      | 1, hu, ha, hnum =>
        rw [show vN (wN y) 1 = wN y 0 by rw [vN, vN, Nat.pow_zero, Nat.one_mul, Nat.zero_add]] at hnum
        have hlt := wN_lt y 0
        rw [← hnum] at hlt
        have hm : x % y < 18446744073709551616 := Nat.lt_trans (Nat.mod_lt _ (Nat.pos_of_ne_zero h0)) hlt
        have := cw x y hx (Nat.pos_of_ne_zero h0) hlt
        exact dv_word (self := self) (nf := nf) (m := m) (w := wN x) (v := wN y) hm (wN_lt y 0) hz hc hn ha (by rw [← hnum]; exact this) (co _ hm)
      | n + 2, hu, ha, hnum => exact dv_long (self := self) (nf := nf) (m := m) (w := wN x) (v := wN y) hz hc hn ha (by omega) (cl x y n hx hy hu)
def crr (g : Nat -> Nat -> Nat -> Nat) (w v : Nat -> Nat) : Nat -> Nat
  | 0 => 0
  | k + 1 => g (w k) (v k) (crr g w v k)
def outW (f g : Nat -> Nat -> Nat -> Nat) (w v : Nat -> Nat) (n j : Nat) : Nat := if j < n then f (w j) (v j) (crr g w v j) else 0
theorem wrDyn : E.wr dynId = false := by kernel_rfl
theorem adr87 : addrT E.P 4 87 = false := by kernel_rfl
theorem cellSeal {M : Mem} {b k : Nat} {ro : Bool} {e : TypeId} {cs : List Value} (h : M[b]? = some (.row ro e cs)) : cellAt (M.map sealed) b k = cs[k]? := cellAt_row (ro := true) (e := e) (by rw [List.getElem?_map, h]; rfl) k
section
variable {self : Self} {nf : Nat} {m m' : Mem} {F : Nat -> Value} {p q r s k c a b : Nat} {w v o : Nat -> Nat} {be be' : TypeId} {id : FuncId}
theorem eac_0 {m1 m2 m3 : Mem} (hb : abox E.P 24 (wide w) m = some (.pointer (some ⟨p, 0, none⟩), m1)) (hc : abox E.P 24 (wide v) m1 = some (.pointer (some ⟨q, 0, none⟩), m2)) (hd : aalloc E.P 24 m2 = some (.pointer (some ⟨r, 0, none⟩), m3)) (h0 : F 0 = wide w) (h1 : F 1 = wide v) :
    ∃ F', acodeN E self nf (.region 0 reac_0 false) (lst F 31) m = some (.normal, lst F' 31, m3) /\ F' 3 = .pointer (some ⟨p, 0, none⟩) /\ F' 4 = .pointer (some ⟨q, 0, none⟩) /\ F' 6 = .pointer (some ⟨r, 0, none⟩) /\ F' 2 = F 2 := by
  simp only [oeac_0, agd_none, acodeN, aopsN, astep, aop, ev, nth_lst, aput, setAt_lst, upd_at, Nat.reduceLT, Nat.reduceEqDiff, if_true, if_false, h0, h1, hb, hc, hd]
  exact ⟨_, rfl, rfl, rfl, rfl, rfl⟩
theorem eac_1 {m1 : Mem} (hd : aalloc E.P 24 m = some (.pointer (some ⟨s, 0, none⟩), m1)) : ∃ F', acodeN E self nf (.region 1 reac_1 false) (lst F 31) m = some (.normal, lst F' 31, m1) /\ F' 8 = .pointer (some ⟨s, 0, none⟩) /\ ∀ j, j < 8 -> F' j = F j := by
  simp only [oeac_1, agd_none, acodeN, aopsN, astep, aop, aput, setAt_lst, hd]
  exact ⟨_, rfl, rfl, fun j h1 => by repeat rw [upd_ne (by omega)]⟩
theorem eac_2 : ∃ F', acodeN E self nf (.region 2 reac_2 false) (lst F 31) m = some (.normal, lst F' 31, m) /\ F' 9 = U 0 /\ ∀ j, j < 9 -> F' j = F j := by
  simp only [oeac_2, agd_none, acodeN, aopsN, astep, aop, ev, aput, setAt_lst]
  exact ⟨_, rfl, by simp only [upd_at, reduceIte]; rfl, fun j h1 => by repeat rw [upd_ne (by omega)]⟩
theorem eac_3 : ∃ F', acodeN E self nf (.region 3 reac_3 false) (lst F 31) m = some (.normal, lst F' 31, m) /\ F' 11 = .int .i64 ((0 : Nat) : Int) /\ ∀ j, j < 11 -> F' j = F j := by
  simp only [oeac_3, agd_none, acodeN, aopsN, astep, aop, ev, aput, setAt_lst]
  exact ⟨_, rfl, by simp only [upd_at, reduceIte]; rfl, fun j h1 => by repeat rw [upd_ne (by omega)]⟩
theorem eac_4 {b : Bool} (h11 : F 11 = .int .i64 ((k : Nat) : Int)) (hb : decide (((k : Nat) : Int) < 8) = b) : ∃ F', acodeN E self nf (.region 4 reac_4 false) (lst F 31) m = some (.normal, lst F' 31, m) /\ F' 12 = .bool b /\ ∀ j, j < 12 -> F' j = F j := by
  simp only [oeac_4, agd_none, acodeN, aopsN, astep, aop, ev, nth_lst, aput, setAt_lst, Nat.reduceLT, if_true, h11, lss64, hb]
  exact ⟨_, rfl, rfl, fun j h1 => by repeat rw [upd_ne (by omega)]⟩
theorem eac_5 (h11 : F 11 = .int .i64 ((k : Nat) : Int)) : ∃ F', acodeN E self nf (.region 5 reac_5 false) (lst F 31) m = some (.normal, lst F' 31, m) /\ F' 10 = .int .i64 ((k : Nat) : Int) /\ ∀ j, j ≠ 10 -> j < 12 -> F' j = F j := by
  simp only [oeac_5, agd_none, acodeN, aopsN, astep, aop, ev, nth_lst, aput, setAt_lst, upd_at, Nat.reduceLT, if_true, h11]
  exact ⟨_, rfl, rfl, fun j h1 h2 => by repeat rw [upd_ne (by omega)]⟩
theorem eac_6 {m1 : Mem} {x y : Nat} (hid : callableB E.P id = true) (h2 : F 2 = .func (.func id) #[] #[]) (h3 : F 3 = .pointer (some ⟨p, 0, none⟩)) (h4 : F 4 = .pointer (some ⟨q, 0, none⟩)) (h8 : F 8 = .pointer (some ⟨s, 0, none⟩)) (h9 : F 9 = U c) (h10 : F 10 = .int .i64 ((k : Nat) : Int)) (hk : k < 8) (cp : cellAt (m.map sealed) p k = some (U x)) (cq : cellAt (m.map sealed) q k = some (U y)) (hs : ∀ M, ainv E self id [U x, U y, U c] M = some (pair64 a b, M)) (st : astore E.P 22 (.pointer (some ⟨s, k, none⟩)) (U a) m = some m1) :
    ∃ F', acodeN E self nf (.region 6 reac_6 true) (lst F 31) m = some (.normal, lst F' 31, m1) /\ F' 9 = U b /\ ∀ j, j ≠ 9 -> j < 12 -> F' j = F j := by
  have i1 := ix24 (p := p) (k := k) hk
  have i2 := ix24 (p := q) (k := k) hk
  have i3 := ix24 (p := s) (k := k) hk
  simp only [↓deac_6, ↓seac_6, oeac_6, agd_none, List.cons_append, List.nil_append, acodeN, adrawT, cls, astep, aop, afloat, ev, nth_lst, aput, setAt_lst, upd_at, Nat.reduceLT, Nat.reduceEqDiff, Option.map_some, List.map_cons, List.map_nil, List.isEmpty_nil, bls, Bool.false_eq_true, if_true, if_false, List.length_map, h2, h3, h4, h8, h9, h10, i1, i2, i3, load22, cp, cq, wrDyn, adr87, hid, hs, ex0, ex1, st]
  exact ⟨_, rfl, rfl, fun j h1 h2 => by repeat rw [upd_ne (by omega)]⟩
theorem eac_7 (h11 : F 11 = .int .i64 ((k : Nat) : Int)) (hk : k < 8) : ∃ F', acodeN E self nf (.region 7 reac_7 false) (lst F 31) m = some (.normal, lst F' 31, m) /\ F' 11 = .int .i64 ((k + 1 : Nat) : Int) /\ ∀ j, j ≠ 11 -> j < 12 -> F' j = F j := by
  have e : wrapF .i64 (((k : Nat) : Int) + 1) = ((k + 1 : Nat) : Int) := by rw [wrap_i64 (by omega) (by omega)]; omega
  simp only [oeac_7, agd_none, acodeN, aopsN, astep, aop, ev, nth_lst, aput, setAt_lst, upd_at, Nat.reduceLT, if_true, h11, add64', e]
  exact ⟨_, rfl, rfl, fun j h1 h2 => by repeat rw [upd_ne (by omega)]⟩
theorem eac_8 {m1 : Mem} {x : Value} (h6 : F 6 = .pointer (some ⟨r, 0, none⟩)) (h8 : F 8 = .pointer (some ⟨s, 0, none⟩)) (h9 : F 9 = x) (ld : aload E.P 24 (.pointer (some ⟨s, 0, none⟩)) m = some (wide o)) (st : astore E.P 24 (.pointer (some ⟨r, 0, none⟩)) (wide o) m = some m1) : ∃ F', acodeN E self nf (.region 8 reac_8 false) (lst F 31) m = some (.normal, lst F' 31, m1) /\ F' 7 = x /\ F' 6 = .pointer (some ⟨r, 0, none⟩) := by
  simp only [oeac_8, agd_none, acodeN, aopsN, astep, aop, ev, nth_lst, aput, setAt_lst, upd_at, Nat.reduceLT, Nat.reduceEqDiff, Option.map_some, if_true, if_false, h6, h8, h9, ld, st]
  exact ⟨_, rfl, rfl, by simp only [upd_at, Nat.reduceEqDiff, reduceIte, h6]⟩
theorem outW_step (f g : Nat -> Nat -> Nat -> Nat) (w v : Nat -> Nat) (k : Nat) : (fun j => if j = k then f (w k) (v k) (crr g w v k) else outW f g w v k j) = outW f g w v (k + 1) := funext fun j => by
  unfold outW
  by_cases h : j = k
  . rw [if_pos h, h, if_pos (Nat.lt_succ_self k)]
  . rw [if_neg h]
    by_cases h2 : j < k
    . rw [if_pos h2, if_pos (by omega)]
    . rw [if_neg h2, if_neg (by omega)]
theorem eac_it {f g : Nat -> Nat -> Nat -> Nat} (hid : callableB E.P id = true) (hst : ∀ x y c, x < 18446744073709551616 -> y < 18446744073709551616 -> c ≤ 1 -> Ans self id [U x, U y, U c] (pair64 (f x y c) (g x y c)))
    (h2 : F 2 = .func (.func id) #[] #[]) (h3 : F 3 = .pointer (some ⟨p, 0, none⟩)) (h4 : F 4 = .pointer (some ⟨q, 0, none⟩)) (h8 : F 8 = .pointer (some ⟨s, 0, none⟩)) (h9 : F 9 = U (crr g w v k)) (h11 : F 11 = .int .i64 ((k : Nat) : Int)) (hk : k < 8) (hc : crr g w v k ≤ 1) (hw : w k < 18446744073709551616) (hv : v k < 18446744073709551616)
    (gp : m[p]? = some (.row false be (rowOf w))) (gq : m[q]? = some (.row false be' (rowOf v))) (gs : m[s]? = some (.row false 24 (rowOf (outW f g w v k)))) :
    ∃ F', acodeN E self nf lpeac_0 (lst F 31) m = some (.normal, lst F' 31, m.set s (.row false 24 (rowOf (outW f g w v (k + 1))))) /\ F' 9 = U (crr g w v (k + 1)) /\ F' 11 = .int .i64 ((k + 1 : Nat) : Int) /\ ∀ j, j < 9 -> F' j = F j := by
  have cp : cellAt (m.map sealed) p k = some (U (w k)) := by rw [cellSeal gp, rowOf_get hk]
  have cq : cellAt (m.map sealed) q k = some (U (v k)) := by rw [cellSeal gq, rowOf_get hk]
  have hs := hst (w k) (v k) (crr g w v k) hw hv hc
  unfold Ans at hs
  have st := store22 (x := f (w k) (v k) (crr g w v k)) gs hk
  rw [outW_step] at st
  rw [show crr g w v (k + 1) = g (w k) (v k) (crr g w v k) from rfl]
  generalize outW f g w v (k + 1) = o' at *
  generalize f (w k) (v k) (crr g w v k) = a at *
  generalize g (w k) (v k) (crr g w v k) = b at *
  generalize crr g w v k = c at *
  obtain ⟨A, ra, a12, ak⟩ := eac_4 (self := self) (nf := nf) (m := m) h11 (b := true) (decide_eq_true (by omega))
  obtain ⟨B, rb, b10, bk⟩ := eac_5 (self := self) (nf := nf) (m := m) ((ak 11 (by omega)).trans h11)
  have kb : ∀ j, j < 10 -> B j = F j := fun j hj => (bk j (by omega) (by omega)).trans (ak j (by omega))
  obtain ⟨C, rc, c9, ck⟩ := eac_6 (self := self) (nf := nf) (m := m) hid ((kb 2 (by omega)).trans h2) ((kb 3 (by omega)).trans h3) ((kb 4 (by omega)).trans h4) ((kb 8 (by omega)).trans h8) ((kb 9 (by omega)).trans h9) b10 hk cp cq hs st
  obtain ⟨D, rd, d11, dk⟩ := eac_7 (self := self) (nf := nf) (m := m.set s (.row false 24 (rowOf o'))) ((ck 11 (by omega) (by omega)).trans ((bk 11 (by omega) (by omega)).trans ((ak 11 (by omega)).trans h11))) hk
  refine ⟨D, ?_, (dk 9 (by omega) (by omega)).trans c9, d11, fun j hj => (dk j (by omega) (by omega)).trans ((ck j (by omega) (by omega)).trans (kb j (by omega)))⟩
  rw [lpeac_0_eq]
  generalize m.set s (.row false 24 (rowOf o')) = M1 at *
  generalize Code.region 4 reac_4 false = C4 at *
  generalize Code.region 5 reac_5 false = C5 at *
  generalize Code.region 6 reac_6 true = C6 at *
  generalize Code.region 7 reac_7 false = C7 at *
  simp only [acodeN, ra, rb, rc, rd, ev, nth_lst, Nat.reduceLT, if_true, a12]
theorem eac_end (h11 : F 11 = .int .i64 ((8 : Nat) : Int)) : ∃ F', acodeN E self nf lpeac_0 (lst F 31) m = some (.exit 0, lst F' 31, m) /\ ∀ j, j < 12 -> F' j = F j := by
  obtain ⟨A, ra, a12, ak⟩ := eac_4 (self := self) (nf := nf) (m := m) h11 (b := false) (by decide)
  rw [lpeac_0_eq]
  refine ⟨A, ?_, ak⟩
  generalize Code.region 4 reac_4 false = C4 at *
  simp only [acodeN, ra, ev, nth_lst, Nat.reduceLT, if_true, a12]
theorem crr_le {f g : Nat -> Nat -> Nat -> Nat} (hg : ∀ x y c, x < 18446744073709551616 -> y < 18446744073709551616 -> c ≤ 1 -> g x y c ≤ 1) (hw : ∀ j, w j < 18446744073709551616) (hv : ∀ j, v j < 18446744073709551616) : ∀ k, crr g w v k ≤ 1
  | 0 => Nat.zero_le 1
  | k + 1 => hg _ _ _ (hw k) (hv k) (crr_le (f := f) hg hw hv k)
theorem eac_body {f g : Nat -> Nat -> Nat -> Nat} (hid : callableB E.P id = true) (hst : ∀ x y c, x < 18446744073709551616 -> y < 18446744073709551616 -> c ≤ 1 -> Ans self id [U x, U y, U c] (pair64 (f x y c) (g x y c))) (hg : ∀ x y c, x < 18446744073709551616 -> y < 18446744073709551616 -> c ≤ 1 -> g x y c ≤ 1)
    (hw : ∀ j, w j < 18446744073709551616) (hv : ∀ j, v j < 18446744073709551616) (hnf : 10 < nf) :
    ∃ m', abody E self nf 38 [wide w, wide v, .func (.func id) #[] #[]] m = some (.tuple ⟨[wide (outW f g w v 8), U (crr g w v 8)]⟩, m') := by
  rw [abody_eqF (by kernel_rfl) Tryd.func38 bodyeac (by kernel_rfl) (Nat.le_of_ble_eq_true rfl)]
  rw [show Tryd.f38.ntmps = 31 from rfl]
  obtain ⟨m1, m2, m3, M, hb, hc, hd, he, h4⟩ := four_allocs m w v
  obtain ⟨A, ra, a3, a4, a6, a2⟩ := eac_0 (self := self) (nf := nf) (F := init [wide w, wide v, .func (.func id) #[] #[]]) hb hc hd rfl rfl
  obtain ⟨B, rb, b8, bk⟩ := eac_1 (self := self) (nf := nf) (F := A) he
  obtain ⟨C, rc, c9, ck⟩ := eac_2 (self := self) (nf := nf) (m := M) (F := B)
  obtain ⟨D, rd, d11, dk⟩ := eac_3 (self := self) (nf := nf) (m := M) (F := C)
  have kd : ∀ j, j < 8 -> D j = A j := fun j hj => (dk j (by omega)).trans ((ck j (by omega)).trans (bk j hj))
  have d2 : D 2 = .func (.func id) #[] #[] := (kd 2 (by omega)).trans a2
  have d8 := (dk 8 (by omega)).trans ((ck 8 (by omega)).trans b8)
  have d9 : D 9 = U (crr g w v 0) := (dk 9 (by omega)).trans c9
  have hz : (fun _ => 0 : Nat -> Nat) = outW f g w v 0 := funext fun j => by unfold outW; rw [if_neg (Nat.not_lt_zero j)]
  have gs0 := h4.s
  rw [hz] at gs0
  have hloop := aloop_inv (body := acodeN E self nf lpeac_0) (N := 8)
    (I := fun k T m' => ∃ G, T = lst G 31 /\ G 2 = .func (.func id) #[] #[] /\ G 3 = .pointer (some ⟨m.length, 0, none⟩) /\ G 4 = .pointer (some ⟨m.length + 1, 0, none⟩) /\ G 6 = .pointer (some ⟨m.length + 2, 0, none⟩) /\ G 8 = .pointer (some ⟨m.length + 3, 0, none⟩) /\ G 9 = U (crr g w v k) /\ G 11 = .int .i64 ((k : Nat) : Int) ∧
      m'[m.length]? = some (.row false 24 (rowOf w)) /\ m'[m.length + 1]? = some (.row false 24 (rowOf v)) /\ m'[m.length + 2]? = some (.row false 24 (rowOf fun _ => 0)) /\ m'[m.length + 3]? = some (.row false 24 (rowOf (outW f g w v k))))
    (Q := fun x T m' => x = .exit 0 /\ ∃ G, T = lst G 31 /\ G 6 = .pointer (some ⟨m.length + 2, 0, none⟩) /\ G 8 = .pointer (some ⟨m.length + 3, 0, none⟩) /\ G 9 = U (crr g w v 8) /\ m'[m.length + 2]? = some (.row false 24 (rowOf fun _ => 0)) /\ m'[m.length + 3]? = some (.row false 24 (rowOf (outW f g w v 8)))) (fun k T m' hk hI => by
      obtain ⟨G, rfl, g2, g3, g4, g6, g8, g9, g11, gp, gq, gr, gs⟩ := hI
      by_cases h0 : k = 8
      . right
        subst h0
        obtain ⟨H, rh, hk⟩ := eac_end (self := self) (nf := nf) (m := m') g11
        exact ⟨_, _, _, rh, by simp, rfl, H, rfl, (hk 6 (by omega)).trans g6, (hk 8 (by omega)).trans g8, (hk 9 (by omega)).trans g9, gr, gs⟩
      . left
        have hk8 : k < 8 := by omega
        obtain ⟨H, rh, h9, h11, hk2⟩ := eac_it (self := self) (nf := nf) (m := m') (f := f) hid hst g2 g3 g4 g8 g9 g11 hk8 (crr_le (f := f) hg hw hv k) (hw k) (hv k) gp gq gs
        refine ⟨_, _, rh, by omega, H, rfl, (hk2 2 (by omega)).trans g2, (hk2 3 (by omega)).trans g3, (hk2 4 (by omega)).trans g4, (hk2 6 (by omega)).trans g6, (hk2 8 (by omega)).trans g8, h9, h11, ?_, ?_, ?_, ?_⟩
        . rw [List.getElem?_set_ne (by omega)]; exact gp
        . rw [List.getElem?_set_ne (by omega)]; exact gq
        . rw [List.getElem?_set_ne (by omega)]; exact gr
        . rw [List.getElem?_set_self (lt_of_at gs)])
  obtain ⟨x, T', m', hlp, rfl, G, rfl, g6, g8, g9, gr, gs⟩ := hloop 8 0 nf (lst D 31) M (by omega) (by omega) ⟨D, rfl, d2, (kd 3 (by omega)).trans a3, (kd 4 (by omega)).trans a4, (kd 6 (by omega)).trans a6, d8, d9, d11, h4.p, h4.q, h4.r, gs0⟩
  generalize outW f g w v 8 = o at *
  generalize crr g w v 8 = cc at *
  have st := store24 (w := o) gr (rowOf_length _)
  obtain ⟨H, rh, h7, h6⟩ := eac_8 (self := self) (nf := nf) (m := m') g6 g8 g9 (load24 gs) st
  have ld2 : aload E.P 24 (.pointer (some ⟨m.length + 2, 0, none⟩)) (m'.set (m.length + 2) (.row false 24 (rowOf o))) = some (wide o) := load24 (by rw [List.getElem?_set_self (lt_of_at gr)])
  refine ⟨m'.set (m.length + 2) (.row false 24 (rowOf o)), ?_⟩
  generalize m'.set (m.length + 2) (.row false 24 (rowOf o)) = M2 at *
  generalize Code.region 0 reac_0 false = C0 at *
  generalize Code.region 1 reac_1 false = C1 at *
  generalize Code.region 2 reac_2 false = C2 at *
  generalize Code.region 3 reac_3 false = C3 at *
  generalize Code.region 8 reac_8 false = C8 at *
  simp only [acodeN, ra, rb, rc, rd, hlp, rh, finish, ares, aresL, ares1, Tryd.f38, nth_lst, Nat.reduceLT, if_true, h6, h7, ld2, Option.map_some]
end
def addF (x y c : Nat) : Nat := (x + y + c) % 18446744073709551616
def addG (x y c : Nat) : Nat := (x + y + c) / 18446744073709551616
def subF (x y c : Nat) : Nat := (x + 18446744073709551616 - y - c) % 18446744073709551616
def subG (x y c : Nat) : Nat := if x < y + c then 1 else 0
theorem addG_le (x y c : Nat) (hx : x < 18446744073709551616) (hy : y < 18446744073709551616) (hc : c ≤ 1) : addG x y c ≤ 1 := by unfold addG; omega
theorem subG_le (x y c : Nat) (hx : x < 18446744073709551616) (hy : y < 18446744073709551616) (hc : c ≤ 1) : subG x y c ≤ 1 := by unfold subG; split <;> omega
theorem addFG (x y c : Nat) : x + y + c = addF x y c + 18446744073709551616 * addG x y c := by unfold addF addG; omega
theorem subFG (x y c : Nat) (hx : x < 18446744073709551616) (hy : y < 18446744073709551616) (hc : c ≤ 1) : x + 18446744073709551616 * subG x y c = subF x y c + y + c := by unfold subF subG; split <;> omega
section
variable {w v : Nat -> Nat}
theorem outW_at {f g : Nat -> Nat -> Nat -> Nat} {n j : Nat} (h : j < n) : outW f g w v n j = f (w j) (v j) (crr g w v j) := by unfold outW; rw [if_pos h]
theorem add_sum (w v : Nat -> Nat) : ∀ n, n ≤ 8 -> vN w n + vN v n = vN (outW addF addG w v 8) n + 18446744073709551616 ^ n * crr addG w v n
  | 0, _ => by rw [vN, vN, vN]; rfl
  | n + 1, hn => by
    have ih := add_sum w v n (by omega)
    have h := addFG (w n) (v n) (crr addG w v n)
    rw [vN, vN, vN, outW_at (by omega), show crr addG w v (n + 1) = addG (w n) (v n) (crr addG w v n) from rfl, Nat.pow_succ, Nat.mul_assoc]
    generalize addF (w n) (v n) (crr addG w v n) = f at *
    generalize addG (w n) (v n) (crr addG w v n) = g at *
    generalize crr addG w v n = c at *
    generalize vN (outW addF addG w v 8) n = o at *
    generalize vN w n = a at *
    generalize vN v n = b at *
    generalize 18446744073709551616 ^ n = P at *
    have e1 : P * (w n + v n + c) = P * (f + 18446744073709551616 * g) := by rw [h]
    rw [Nat.mul_add, Nat.mul_add, Nat.mul_add] at e1
    omega
theorem sub_sum (hw : ∀ j, w j < 18446744073709551616) (hv : ∀ j, v j < 18446744073709551616) : ∀ n, n ≤ 8 -> vN w n + 18446744073709551616 ^ n * crr subG w v n = vN (outW subF subG w v 8) n + vN v n
  | 0, _ => by rw [vN, vN, vN]; rfl
  | n + 1, hn => by
    have ih := sub_sum hw hv n (by omega)
    have h := subFG (w n) (v n) (crr subG w v n) (hw n) (hv n) (crr_le (f := subF) subG_le hw hv n)
    rw [vN, vN, vN, outW_at (by omega), show crr subG w v (n + 1) = subG (w n) (v n) (crr subG w v n) from rfl, Nat.pow_succ, Nat.mul_assoc]
    generalize subF (w n) (v n) (crr subG w v n) = f at *
    generalize subG (w n) (v n) (crr subG w v n) = g at *
    generalize crr subG w v n = c at *
    generalize vN (outW subF subG w v 8) n = o at *
    generalize vN w n = a at *
    generalize vN v n = b at *
    generalize 18446744073709551616 ^ n = P at *
    have e1 : P * (w n + 18446744073709551616 * g) = P * (f + v n + c) := by rw [h]
    rw [Nat.mul_add, Nat.mul_add, Nat.mul_add] at e1
    omega
theorem outW_lt {f g : Nat -> Nat -> Nat -> Nat} (hf : ∀ x y c, f x y c < 18446744073709551616) (n j : Nat) : outW f g w v n j < 18446744073709551616 := by
  unfold outW
  split
  . exact hf _ _ _
  . decide
end
theorem addF_lt (x y c : Nat) : addF x y c < 18446744073709551616 := Nat.mod_lt _ (by decide)
theorem subF_lt (x y c : Nat) : subF x y c < 18446744073709551616 := Nat.mod_lt _ (by decide)
theorem add_num {x y : Nat} (hx : x < W8) (hy : y < W8) : wide (outW addF addG (wN x) (wN y) 8) = wd ((x + y) % W8) /\ (((crr addG (wN x) (wN y) 8 : Nat) : Int) == 0) = decide (x + y < W8) := by
  have h := add_sum (wN x) (wN y) 8 (Nat.le_refl 8)
  rw [vN_wN8 hx, vN_wN8 hy] at h
  have hl := vN_lt (w := outW addF addG (wN x) (wN y) 8) (outW_lt addF_lt 8) 8
  change _ < W8 at hl
  change _ = _ + W8 * _ at h
  have hp := W8_pos
  have hw := wide_num (w := outW addF addG (wN x) (wN y) 8) (outW_lt addF_lt 8)
  generalize vN (outW addF addG (wN x) (wN y) 8) 8 = o at *
  generalize crr addG (wN x) (wN y) 8 = c at *
  generalize W8 = W at *
  constructor
  . rw [hw, h, Nat.add_mul_mod_self_left, Nat.mod_eq_of_lt hl]
  . rw [Bool.eq_iff_iff, beq_iff_eq, decide_eq_true_eq]
    rcases Nat.eq_zero_or_pos c with h0 | h0
    . subst h0; rw [Nat.mul_zero] at h; omega
    . have : W * 1 ≤ W * c := Nat.mul_le_mul_left W h0
      omega
theorem sub_num {x y : Nat} (hx : x < W8) (hy : y < W8) : wide (outW subF subG (wN x) (wN y) 8) = wd ((x + (W8 - y)) % W8) /\ (((crr subG (wN x) (wN y) 8 : Nat) : Int) == 0) = decide (y ≤ x) := by
  have h := sub_sum (wN_lt x) (wN_lt y) 8 (Nat.le_refl 8)
  have hc := crr_le (f := subF) (g := subG) subG_le (wN_lt x) (wN_lt y) 8
  rw [vN_wN8 hx, vN_wN8 hy] at h
  have hl := vN_lt (w := outW subF subG (wN x) (wN y) 8) (outW_lt subF_lt 8) 8
  change _ < W8 at hl
  change _ + W8 * _ = _ at h
  have hw := wide_num (w := outW subF subG (wN x) (wN y) 8) (outW_lt subF_lt 8)
  generalize vN (outW subF subG (wN x) (wN y) 8) 8 = o at *
  generalize crr subG (wN x) (wN y) 8 = c at *
  generalize W8 = W at *
  have hcc : c = 0 ∨ c = 1 := by omega
  constructor
  . rw [hw]
    congr 1
    rcases hcc with h0 | h0
    . subst h0
      rw [Nat.mul_zero] at h
      rw [show x + (W - y) = o + W by omega, Nat.add_mod_right, Nat.mod_eq_of_lt hl]
    . subst h0
      rw [Nat.mul_one] at h
      rw [show x + (W - y) = o by omega, Nat.mod_eq_of_lt hl]
  . rw [Bool.eq_iff_iff, beq_iff_eq, decide_eq_true_eq]
    rcases hcc with h0 | h0
    . subst h0; rw [Nat.mul_zero] at h; omega
    . subst h0; rw [Nat.mul_one] at h; omega
def CEac (self : Self) (id : FuncId) (f g : Nat -> Nat -> Nat -> Nat) : Prop := ∀ w v : Nat -> Nat, (∀ j, w j < 18446744073709551616) -> (∀ j, v j < 18446744073709551616) -> Ans self 38 [wide w, wide v, .func (.func id) #[] #[]] (.tuple ⟨[wide (outW f g w v 8), U (crr g w v 8)]⟩)
theorem callEac : callableB E.P 38 = true := by kernel_rfl
section
variable {self : Self} {nf : Nat} {m m' : Mem} {F : Nat -> Value} {p q r s c : Nat} {w v o : Nat -> Nat}
theorem wadd_0 {m1 m2 m3 : Mem} (hb : abox E.P 24 (wide w) m = some (.pointer (some ⟨p, 0, none⟩), m1)) (hc : abox E.P 24 (wide v) m1 = some (.pointer (some ⟨q, 0, none⟩), m2)) (hd : aalloc E.P 24 m2 = some (.pointer (some ⟨r, 0, none⟩), m3)) (h0 : F 0 = wide w) (h1 : F 1 = wide v) :
    ∃ F', acodeN E self nf (.region 0 rwadd_0 false) (lst F 17) m = some (.normal, lst F' 17, m3) /\ F' 2 = .pointer (some ⟨p, 0, none⟩) /\ F' 3 = .pointer (some ⟨q, 0, none⟩) /\ F' 4 = .pointer (some ⟨r, 0, none⟩) := by
  simp only [owadd_0, agd_none, acodeN, aopsN, astep, aop, ev, nth_lst, aput, setAt_lst, upd_at, Nat.reduceLT, Nat.reduceEqDiff, if_true, if_false, h0, h1, hb, hc, hd]
  exact ⟨_, rfl, rfl, rfl, rfl⟩
theorem wadd_1 {m1 m2 : Mem} (h2 : F 2 = .pointer (some ⟨p, 0, none⟩)) (h3 : F 3 = .pointer (some ⟨q, 0, none⟩)) (ld : aload E.P 24 (.pointer (some ⟨p, 0, none⟩)) m = some (wide w)) (ld2 : aload E.P 24 (.pointer (some ⟨q, 0, none⟩)) m = some (wide v)) (hc : ∀ M, ainv E self 38 [wide w, wide v, .func (.func 39) #[] #[]] M = some (.tuple ⟨[wide o, U c]⟩, M)) (ha : aalloc E.P 24 m = some (.pointer (some ⟨s, 0, none⟩), m1)) (st : astore E.P 24 (.pointer (some ⟨s, 0, none⟩)) (wide o) m1 = some m2) :
    ∃ F', acodeN E self nf (.region 1 rwadd_1 false) (lst F 17) m = some (.normal, lst F' 17, m2) /\ F' 6 = .pointer (some ⟨s, 0, none⟩) /\ F' 7 = U c /\ ∀ j, j < 6 -> F' j = F j := by
  simp only [owadd_1, agd_none, List.cons_append, List.nil_append, acodeN, aopsN, astep, aop, ev, nth_lst, aput, setAt_lst, upd_at, Nat.reduceLT, Nat.reduceEqDiff, Option.map_some, List.map_cons, List.map_nil, List.isEmpty_nil, bls, if_true, if_false, h2, h3, ld, ld2, callEac, hc, ha, st, exW0, exW1]
  exact ⟨_, rfl, rfl, rfl, fun j h1 => by repeat rw [upd_ne (by omega)]⟩
theorem wadd_2 {m1 : Mem} {b : Bool} (h4 : F 4 = .pointer (some ⟨r, 0, none⟩)) (h6 : F 6 = .pointer (some ⟨s, 0, none⟩)) (h7 : F 7 = U c) (ld : aload E.P 24 (.pointer (some ⟨s, 0, none⟩)) m = some (wide o)) (hb : (((c : Nat) : Int) == 0) = b) (st : astore E.P 24 (.pointer (some ⟨r, 0, none⟩)) (wide o) m = some m1) :
    ∃ F', acodeN E self nf (.region 2 rwadd_2 false) (lst F 17) m = some (.normal, lst F' 17, m1) /\ F' 4 = .pointer (some ⟨r, 0, none⟩) /\ F' 5 = .bool b := by
  simp only [owadd_2, agd_none, acodeN, aopsN, astep, aop, ev, nth_lst, aput, setAt_lst, upd_at, Nat.reduceLT, Nat.reduceEqDiff, Option.map_some, eqlVal_int, ↓aop_eqlV, if_true, if_false, h4, h6, h7, ld, hb, st]
  exact ⟨_, rfl, by simp only [upd_at, Nat.reduceEqDiff, reduceIte, h4], rfl⟩
theorem wadd_body {b : Bool} (hc9 : ∀ M, ainv E self 38 [wide w, wide v, .func (.func 39) #[] #[]] M = some (.tuple ⟨[wide o, U c]⟩, M)) (hb9 : (((c : Nat) : Int) == 0) = b) : ∃ m', abody E self nf 9 [wide w, wide v] m = some (.tuple ⟨[wide o, .bool b]⟩, m') := by
  rw [abody_eqF (by kernel_rfl) Tryd.func9 bodywadd (by kernel_rfl) (Nat.le_of_ble_eq_true rfl)]
  rw [show Tryd.f9.ntmps = 17 from rfl]
  obtain ⟨m1, m2, M, m4, hb, hc, hd, he, h4⟩ := four_allocs m w v
  obtain ⟨A, ra, a2, a3, a4⟩ := wadd_0 (self := self) (nf := nf) (F := init [wide w, wide v]) hb hc hd rfl rfl
  obtain ⟨N, t1, t2, lN, p0, q0, r0⟩ : ∃ N, aalloc E.P 24 M = some (.pointer (some ⟨m.length + 3, 0, none⟩), N) /\ N[m.length + 3]? = some (.row false 24 (rowOf fun _ => 0)) /\ M.length = m.length + 3 /\ M[m.length]? = some (.row false 24 (rowOf w)) /\ M[m.length + 1]? = some (.row false 24 (rowOf v)) /\ N[m.length + 2]? = some (.row false 24 (rowOf fun _ => 0)) := by
    have e := alloc24 M
    rw [he] at e
    obtain ⟨e1, e2⟩ : m.length + 3 = M.length /\ m4 = M ++ [Blk.row false 24 (rowOf fun _ => 0)] := by simpa using e
    have low : ∀ k, k < M.length -> M[k]? = m4[k]? := fun k hk => by rw [e2, List.getElem?_append_left hk]
    exact ⟨m4, he, h4.s, e1.symm, (low _ (by omega)).trans h4.p, (low _ (by omega)).trans h4.q, h4.r⟩
  have st := store24 (w := o) t2 (rowOf_length _)
  obtain ⟨B, rb, b6, b7, bk⟩ := wadd_1 (self := self) (nf := nf) a2 a3 (load24 p0) (load24 q0) hc9 t1 st
  obtain ⟨V, hV⟩ : ∃ V, V = N.set (m.length + 3) (.row false 24 (rowOf o)) := ⟨_, rfl⟩
  rw [← hV] at rb
  have vs : V[m.length + 3]? = some (.row false 24 (rowOf o)) := by rw [hV, List.getElem?_set_self (lt_of_at t2)]
  have vr : V[m.length + 2]? = some (.row false 24 (rowOf fun _ => 0)) := by rw [hV, List.getElem?_set_ne (by omega)]; exact r0
  clear hV st
  have st := store24 (w := o) vr (rowOf_length _)
  obtain ⟨C, rc, c4, c5⟩ := wadd_2 (self := self) (nf := nf) ((bk 4 (by omega)).trans a4) b6 b7 (load24 vs) hb9 st
  have ld2 : aload E.P 24 (.pointer (some ⟨m.length + 2, 0, none⟩)) (V.set (m.length + 2) (.row false 24 (rowOf o))) = some (wide o) := load24 (by rw [List.getElem?_set_self (lt_of_at vr)])
  refine ⟨V.set (m.length + 2) (.row false 24 (rowOf o)), ?_⟩
  generalize V.set (m.length + 2) (.row false 24 (rowOf o)) = M2 at *
  generalize Code.region 0 rwadd_0 false = C0 at *
  generalize Code.region 1 rwadd_1 false = C1 at *
  generalize Code.region 2 rwadd_2 false = C2 at *
  simp only [acodeN, ra, rb, rc, finish, ares, aresL, ares1, Tryd.f9, nth_lst, Nat.reduceLT, if_true, c4, c5, ld2, Option.map_some]
theorem wsub_0 {m1 m2 m3 : Mem} (hb : abox E.P 24 (wide w) m = some (.pointer (some ⟨p, 0, none⟩), m1)) (hc : abox E.P 24 (wide v) m1 = some (.pointer (some ⟨q, 0, none⟩), m2)) (hd : aalloc E.P 24 m2 = some (.pointer (some ⟨r, 0, none⟩), m3)) (h0 : F 0 = wide w) (h1 : F 1 = wide v) :
    ∃ F', acodeN E self nf (.region 0 rwsub_0 false) (lst F 17) m = some (.normal, lst F' 17, m3) /\ F' 2 = .pointer (some ⟨p, 0, none⟩) /\ F' 3 = .pointer (some ⟨q, 0, none⟩) /\ F' 4 = .pointer (some ⟨r, 0, none⟩) := by
  simp only [owsub_0, agd_none, acodeN, aopsN, astep, aop, ev, nth_lst, aput, setAt_lst, upd_at, Nat.reduceLT, Nat.reduceEqDiff, if_true, if_false, h0, h1, hb, hc, hd]
  exact ⟨_, rfl, rfl, rfl, rfl⟩
theorem wsub_1 {m1 m2 : Mem} (h2 : F 2 = .pointer (some ⟨p, 0, none⟩)) (h3 : F 3 = .pointer (some ⟨q, 0, none⟩)) (ld : aload E.P 24 (.pointer (some ⟨p, 0, none⟩)) m = some (wide w)) (ld2 : aload E.P 24 (.pointer (some ⟨q, 0, none⟩)) m = some (wide v)) (hc : ∀ M, ainv E self 38 [wide w, wide v, .func (.func 41) #[] #[]] M = some (.tuple ⟨[wide o, U c]⟩, M)) (ha : aalloc E.P 24 m = some (.pointer (some ⟨s, 0, none⟩), m1)) (st : astore E.P 24 (.pointer (some ⟨s, 0, none⟩)) (wide o) m1 = some m2) :
    ∃ F', acodeN E self nf (.region 1 rwsub_1 false) (lst F 17) m = some (.normal, lst F' 17, m2) /\ F' 6 = .pointer (some ⟨s, 0, none⟩) /\ F' 7 = U c /\ ∀ j, j < 6 -> F' j = F j := by
  simp only [owsub_1, agd_none, List.cons_append, List.nil_append, acodeN, aopsN, astep, aop, ev, nth_lst, aput, setAt_lst, upd_at, Nat.reduceLT, Nat.reduceEqDiff, Option.map_some, List.map_cons, List.map_nil, List.isEmpty_nil, bls, if_true, if_false, h2, h3, ld, ld2, callEac, hc, ha, st, exW0, exW1]
  exact ⟨_, rfl, rfl, rfl, fun j h1 => by repeat rw [upd_ne (by omega)]⟩
theorem wsub_2 {m1 : Mem} {b : Bool} (h4 : F 4 = .pointer (some ⟨r, 0, none⟩)) (h6 : F 6 = .pointer (some ⟨s, 0, none⟩)) (h7 : F 7 = U c) (ld : aload E.P 24 (.pointer (some ⟨s, 0, none⟩)) m = some (wide o)) (hb : (((c : Nat) : Int) == 0) = b) (st : astore E.P 24 (.pointer (some ⟨r, 0, none⟩)) (wide o) m = some m1) :
    ∃ F', acodeN E self nf (.region 2 rwsub_2 false) (lst F 17) m = some (.normal, lst F' 17, m1) /\ F' 4 = .pointer (some ⟨r, 0, none⟩) /\ F' 5 = .bool b := by
  simp only [owsub_2, agd_none, acodeN, aopsN, astep, aop, ev, nth_lst, aput, setAt_lst, upd_at, Nat.reduceLT, Nat.reduceEqDiff, Option.map_some, eqlVal_int, ↓aop_eqlV, if_true, if_false, h4, h6, h7, ld, hb, st]
  exact ⟨_, rfl, by simp only [upd_at, Nat.reduceEqDiff, reduceIte, h4], rfl⟩
theorem wsub_body {b : Bool} (hc9 : ∀ M, ainv E self 38 [wide w, wide v, .func (.func 41) #[] #[]] M = some (.tuple ⟨[wide o, U c]⟩, M)) (hb9 : (((c : Nat) : Int) == 0) = b) : ∃ m', abody E self nf 13 [wide w, wide v] m = some (.tuple ⟨[wide o, .bool b]⟩, m') := by
  rw [abody_eqF (by kernel_rfl) Tryd.func13 bodywsub (by kernel_rfl) (Nat.le_of_ble_eq_true rfl)]
  rw [show Tryd.f13.ntmps = 17 from rfl]
  obtain ⟨m1, m2, M, m4, hb, hc, hd, he, h4⟩ := four_allocs m w v
  obtain ⟨A, ra, a2, a3, a4⟩ := wsub_0 (self := self) (nf := nf) (F := init [wide w, wide v]) hb hc hd rfl rfl
  obtain ⟨N, t1, t2, lN, p0, q0, r0⟩ : ∃ N, aalloc E.P 24 M = some (.pointer (some ⟨m.length + 3, 0, none⟩), N) /\ N[m.length + 3]? = some (.row false 24 (rowOf fun _ => 0)) /\ M.length = m.length + 3 /\ M[m.length]? = some (.row false 24 (rowOf w)) /\ M[m.length + 1]? = some (.row false 24 (rowOf v)) /\ N[m.length + 2]? = some (.row false 24 (rowOf fun _ => 0)) := by
    have e := alloc24 M
    rw [he] at e
    obtain ⟨e1, e2⟩ : m.length + 3 = M.length /\ m4 = M ++ [Blk.row false 24 (rowOf fun _ => 0)] := by simpa using e
    have low : ∀ k, k < M.length -> M[k]? = m4[k]? := fun k hk => by rw [e2, List.getElem?_append_left hk]
    exact ⟨m4, he, h4.s, e1.symm, (low _ (by omega)).trans h4.p, (low _ (by omega)).trans h4.q, h4.r⟩
  have st := store24 (w := o) t2 (rowOf_length _)
  obtain ⟨B, rb, b6, b7, bk⟩ := wsub_1 (self := self) (nf := nf) a2 a3 (load24 p0) (load24 q0) hc9 t1 st
  obtain ⟨V, hV⟩ : ∃ V, V = N.set (m.length + 3) (.row false 24 (rowOf o)) := ⟨_, rfl⟩
  rw [← hV] at rb
  have vs : V[m.length + 3]? = some (.row false 24 (rowOf o)) := by rw [hV, List.getElem?_set_self (lt_of_at t2)]
  have vr : V[m.length + 2]? = some (.row false 24 (rowOf fun _ => 0)) := by rw [hV, List.getElem?_set_ne (by omega)]; exact r0
  clear hV st
  have st := store24 (w := o) vr (rowOf_length _)
  obtain ⟨C, rc, c4, c5⟩ := wsub_2 (self := self) (nf := nf) ((bk 4 (by omega)).trans a4) b6 b7 (load24 vs) hb9 st
  have ld2 : aload E.P 24 (.pointer (some ⟨m.length + 2, 0, none⟩)) (V.set (m.length + 2) (.row false 24 (rowOf o))) = some (wide o) := load24 (by rw [List.getElem?_set_self (lt_of_at vr)])
  refine ⟨V.set (m.length + 2) (.row false 24 (rowOf o)), ?_⟩
  generalize V.set (m.length + 2) (.row false 24 (rowOf o)) = M2 at *
  generalize Code.region 0 rwsub_0 false = C0 at *
  generalize Code.region 1 rwsub_1 false = C1 at *
  generalize Code.region 2 rwsub_2 false = C2 at *
  simp only [acodeN, ra, rb, rc, finish, ares, aresL, ares1, Tryd.f13, nth_lst, Nat.reduceLT, if_true, c4, c5, ld2, Option.map_some]
end
end Go.Am.Seat
