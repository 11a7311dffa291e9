/-
  Texts of my own, put together: LTA, LR2, KW9, KWA, M9, KWB, LR3, LTB.
-/
import Derived.Test.YtfgincdpgdlfnaaDoorGrLimbTexts26
import Derived.Test.YtfgincdpgdlfnaaDoorGrLimbTexts23
import Derived.Test.YtfgincdpgdlfnaaDoorGrLimbTexts18
set_option linter.unusedSimpArgs false
set_option linter.unusedVariables false
set_option maxRecDepth 100000
namespace Go.Am.Seat
open Go.Proofs Go.Am Go.Am.Num Go.Am.Kn
theorem natsOf_app (a b : ByteArray) : natsOf (a ++ b) = natsOf a ++ natsOf b := by
  unfold natsOf
  rw [show (a ++ b).data.toList = a.data.toList ++ b.data.toList by rw [ByteArray.data_append, Array.toList_append], List.map_append]
theorem size_nats (s : ByteArray) : s.size = (natsOf s).length := by
  rw [natsOf_len]
  rfl
def CFu (self : Self) : Prop := ∀ u, u < 18446744073709551616 → ∃ t, natsOf t = decs u ∧ AnsP self 23 [U u, .int .i64 10] (.string t)
noncomputable def zs (k : Nat) : ByteArray := ⟨(Lib.repeatL [48] k).toArray⟩
theorem natsOf_zs (k : Nat) : natsOf (zs k) = List.replicate k 48 := by
  unfold natsOf zs
  rw [show ([48] : List UInt8) = List.replicate 1 48 from rfl, Lib.repeatL_replicate]
  simp
theorem callRep : callableB E.P 24 = true := by kernel_rfl
theorem callDw9 : callableB E.P 22 = true := by kernel_rfl
theorem callFmu : callableB E.P 23 = true := by kernel_rfl
theorem rep_zs {self : Self} {k : Nat} (h : k ≤ 4096) (M : Mem) : ainv E self 24 [.string ⟨#[48]⟩, .int .i64 ((k : Nat) : Int)] M = some (.string (zs k), M) := by
  unfold ainv
  rw [if_pos (show ([Value.string ⟨#[48]⟩, .int .i64 ((k : Nat) : Int)]).all lit2 = true from rfl), show E.fast 24 = some repeatF by kernel_rfl]
  simp only
  unfold repeatF
  simp only
  rw [if_pos ⟨by omega, by omega, by decide⟩, Int.toNat_natCast]
  rfl
theorem digitsOk_append {a b : List Nat} (ha : digitsOk a = true) (hb : digitsOk b = true) : digitsOk (a ++ b) = true := by
  unfold digitsOk at *
  rw [List.all_append, ha, hb]
  rfl
theorem digitsOk_zeros (k : Nat) : digitsOk (List.replicate k 48) = true := by
  unfold digitsOk
  rw [List.all_eq_true]
  intro c hc
  rw [(List.mem_replicate.1 hc).2]
  rfl
structure DgAt (X y : Nat) (t : ByteArray) (i : Nat) : Prop where
  ok : digitsOk (natsOf t) = true
  len : (natsOf t).length = 19 * i
  sum : y * 10 ^ (19 * i) + decV (natsOf t) = X
  pos : i = 0 ∨ 0 < y
theorem DgAt.le {X y : Nat} {t : ByteArray} {i : Nat} (h : DgAt X y t i) (hX : X < W8) : i ≤ 8 := by
  rcases h.pos with h0 | h0
  · omega
  · rcases Nat.lt_or_ge 8 i with h9 | h9
    · have h1 : 10 ^ (19 * 9) ≤ 10 ^ (19 * i) := Nat.pow_le_pow_right (by decide) (by omega)
      have h2 : 10 ^ (19 * i) ≤ y * 10 ^ (19 * i) := Nat.le_mul_of_pos_left _ h0
      have h3 : W8 < 10 ^ (19 * 9) := by unfold W8; decide +kernel
      have := h.sum
      omega
    · exact h9
section
variable {self : Self} {nf : Nat} {m M : Mem} {F : Nat → Value} {p X y i : Nat} {t : ByteArray}
theorem lgd_2 {m1 m2 : Mem} {r l : Nat} (h1 : F 1 = .pointer (some ⟨p, 0, none⟩)) (ld : aload E.P 24 (.pointer (some ⟨p, 0, none⟩)) M = some (wd y)) (hd : ∀ M, ainv E self 22 [wd y, .int .u64 10000000000000000000] M = some (.tuple ⟨[wd r, U l]⟩, M)) (ha : aalloc E.P 24 M = some (.pointer (some ⟨M.length, 0, none⟩), m1)) (st : astore E.P 24 (.pointer (some ⟨M.length, 0, none⟩)) (wd r) m1 = some m2) :
    ∃ F', acodeN E self nf (.region 2 rlgd_2 false) (lst F 29) M = some (.normal, lst F' 29, m2) ∧ F' 4 = .pointer (some ⟨M.length, 0, none⟩) ∧ F' 5 = U l ∧ ∀ j, j < 4 → F' j = F j := by
  simp only [olgd_2, agd_none, gdAt, gdV_bool, gdV_undef, List.append_eq, List.cons_append, List.nil_append, apure_call1, apure_call2, apure_call3, bft, btf, acodeN, List.getElem?_toArray, List.getElem?_cons_zero, List.getElem?_cons_succ, aopsN, adrawT, cls, astep, aop, afloat, ev, nth_lst, get_lst, aput, setAt_lst, upd_at, init_zero, init_succ, init_nil, Nat.reduceLT, Nat.reduceEqDiff, reduceIte, abuiltin, alen, Option.map_some, Option.map_none, orElse_some, apure_add, apure_eqlV, eqlVal_str, eqlVal_bool, eqlVal_ptr, eqlVal_slice, eqlVal_wide, eqlVal_int, allT, ↓aop_eqlV, apure_neq, List.map_cons, List.map_nil, List.all_cons, List.all_nil, lit2, lit1, lit0, List.isEmpty_nil, bls, Bool.false_eq_true, if_true, if_false, List.length_map, beq_self_eq_true, uns, h1, ld, callDw9, hd, exW0, exW1, ha, st]
  exact ⟨_, rfl, by simp only [upd_at, Nat.reduceEqDiff, reduceIte], by simp only [upd_at, Nat.reduceEqDiff, reduceIte], fun j hj => by repeat rw [upd_ne (by omega)]⟩
theorem lgd_3 {l : Nat} {s : ByteArray} (h5 : F 5 = U l) (hf : ainv E self 23 [U l, .int .i64 10] M = some (.string s, M)) :
    ∃ F', acodeN E self nf (.region 3 rlgd_3 false) (lst F 29) M = some (.normal, lst F' 29, M) ∧ F' 6 = .string s ∧ ∀ j, j < 6 → F' j = F j := by
  simp only [olgd_3, agd_none, gdAt, gdV_bool, gdV_undef, List.append_eq, List.cons_append, List.nil_append, apure_call1, apure_call2, apure_call3, bft, btf, acodeN, List.getElem?_toArray, List.getElem?_cons_zero, List.getElem?_cons_succ, aopsN, adrawT, cls, astep, aop, afloat, ev, nth_lst, get_lst, aput, setAt_lst, upd_at, init_zero, init_succ, init_nil, Nat.reduceLT, Nat.reduceEqDiff, reduceIte, abuiltin, alen, Option.map_some, Option.map_none, orElse_some, apure_add, apure_eqlV, eqlVal_str, eqlVal_bool, eqlVal_ptr, eqlVal_slice, eqlVal_wide, eqlVal_int, allT, ↓aop_eqlV, apure_neq, List.map_cons, List.map_nil, List.all_cons, List.all_nil, lit2, lit1, lit0, List.isEmpty_nil, bls, Bool.false_eq_true, if_true, if_false, List.length_map, beq_self_eq_true, uns, h5, callFmu, hf]
  exact ⟨_, rfl, by simp only [upd_at, Nat.reduceEqDiff, reduceIte], fun j hj => by repeat rw [upd_ne (by omega)]⟩
theorem lgd_4 {q r : Nat} {b : Bool} (h4 : F 4 = .pointer (some ⟨q, 0, none⟩)) (ld : aload E.P 24 (.pointer (some ⟨q, 0, none⟩)) M = some (wd r)) (he : ∀ a c, eqlVal E.P 24 a c (wd r) (wide fun _ => 0) = some (.bool b)) :
    ∃ F', acodeN E self nf (.region 4 rlgd_4 false) (lst F 29) M = some (.normal, lst F' 29, M) ∧ F' 16 = .bool b ∧ ∀ j, j < 7 → F' j = F j := by
  simp only [olgd_4, agd_none, gdAt, gdV_bool, gdV_undef, List.append_eq, List.cons_append, List.nil_append, apure_call1, apure_call2, apure_call3, bft, btf, acodeN, List.getElem?_toArray, List.getElem?_cons_zero, List.getElem?_cons_succ, aopsN, adrawT, cls, astep, aop, afloat, ev, nth_lst, get_lst, aput, setAt_lst, upd_at, init_zero, init_succ, init_nil, Nat.reduceLT, Nat.reduceEqDiff, reduceIte, abuiltin, alen, Option.map_some, Option.map_none, orElse_some, apure_add, apure_eqlV, eqlVal_str, eqlVal_bool, eqlVal_ptr, eqlVal_slice, eqlVal_wide, eqlVal_int, allT, ↓aop_eqlV, apure_neq, List.map_cons, List.map_nil, List.all_cons, List.all_nil, lit2, lit1, lit0, List.isEmpty_nil, bls, Bool.false_eq_true, if_true, if_false, List.length_map, beq_self_eq_true, uns, h4, ld, build24, he]
  exact ⟨_, rfl, by simp only [upd_at, Nat.reduceEqDiff, reduceIte], fun j hj => by repeat rw [upd_ne (by omega)]⟩
theorem lgd_5 {s : ByteArray} (h6 : F 6 = .string s) (h3 : F 3 = .string t) (hs : s.size + t.size ≤ 9223372036854775807) :
    ∃ F', acodeN E self nf (.region 5 rlgd_5 false) (lst F 29) M = some (.normal, lst F' 29, M) ∧ F' 2 = .string (s ++ t) := by
  simp only [olgd_5, agd_none, gdAt, gdV_bool, gdV_undef, List.append_eq, List.cons_append, List.nil_append, apure_call1, apure_call2, apure_call3, bft, btf, acodeN, List.getElem?_toArray, List.getElem?_cons_zero, List.getElem?_cons_succ, aopsN, adrawT, cls, astep, aop, afloat, ev, nth_lst, get_lst, aput, setAt_lst, upd_at, init_zero, init_succ, init_nil, Nat.reduceLT, Nat.reduceEqDiff, reduceIte, abuiltin, alen, Option.map_some, Option.map_none, orElse_some, apure_add, apure_eqlV, eqlVal_str, eqlVal_bool, eqlVal_ptr, eqlVal_slice, eqlVal_wide, eqlVal_int, allT, ↓aop_eqlV, apure_neq, List.map_cons, List.map_nil, List.all_cons, List.all_nil, lit2, lit1, lit0, List.isEmpty_nil, bls, Bool.false_eq_true, if_true, if_false, List.length_map, beq_self_eq_true, uns, h6, h3, hs]
  exact ⟨_, rfl, by simp only [upd_at, Nat.reduceEqDiff, reduceIte]⟩
theorem lgd_6 {s : ByteArray} (h6 : F 6 = .string s) (h3 : F 3 = .string t) (hl : s.data.toList.length ≤ 19) (hs : (zs (19 - s.data.toList.length)).size + s.size ≤ 9223372036854775807) (hs2 : (zs (19 - s.data.toList.length) ++ s).size + t.size ≤ 9223372036854775807) :
    ∃ F', acodeN E self nf (.region 6 rlgd_6 false) (lst F 29) M = some (.normal, lst F' 29, M) ∧ F' 3 = .string (zs (19 - s.data.toList.length) ++ s ++ t) ∧ ∀ j, j ≠ 3 → j < 7 → F' j = F j := by
  have e1 := subI 19 s.data.toList.length hl (by omega)
  rw [show ((19 : Nat) : Int) = 19 from rfl] at e1
  have hr : ∀ M, ainv E self 24 [.string ⟨#[48]⟩, .int .i64 ((19 - s.data.toList.length : Nat) : Int)] M = some (.string (zs (19 - s.data.toList.length)), M) := fun M => rep_zs (by omega) M
  generalize zs (19 - s.data.toList.length) = Z at *
  generalize 19 - s.data.toList.length = K at *
  simp only [olgd_6, agd_none, gdAt, gdV_bool, gdV_undef, List.append_eq, List.cons_append, List.nil_append, apure_call1, apure_call2, apure_call3, bft, btf, acodeN, List.getElem?_toArray, List.getElem?_cons_zero, List.getElem?_cons_succ, aopsN, adrawT, cls, astep, aop, afloat, ev, nth_lst, get_lst, aput, setAt_lst, upd_at, init_zero, init_succ, init_nil, Nat.reduceLT, Nat.reduceEqDiff, reduceIte, abuiltin, alen, Option.map_some, Option.map_none, orElse_some, apure_add, apure_eqlV, eqlVal_str, eqlVal_bool, eqlVal_ptr, eqlVal_slice, eqlVal_wide, eqlVal_int, allT, ↓aop_eqlV, apure_neq, List.map_cons, List.map_nil, List.all_cons, List.all_nil, lit2, lit1, lit0, List.isEmpty_nil, bls, Bool.false_eq_true, if_true, if_false, List.length_map, beq_self_eq_true, uns, h6, h3, len_S, alen, sub64', e1, callRep, hr, hs, hs2]
  exact ⟨_, rfl, by simp only [upd_at, Nat.reduceEqDiff, reduceIte], fun j h hj => by repeat rw [upd_ne (by omega)]⟩
theorem lgd_7 {m1 : Mem} {q r : Nat} (h1 : F 1 = .pointer (some ⟨p, 0, none⟩)) (h4 : F 4 = .pointer (some ⟨q, 0, none⟩)) (ld : aload E.P 24 (.pointer (some ⟨q, 0, none⟩)) M = some (wd r)) (st : astore E.P 24 (.pointer (some ⟨p, 0, none⟩)) (wd r) M = some m1) :
    ∃ F', acodeN E self nf (.region 7 rlgd_7 false) (lst F 29) M = some (.normal, lst F' 29, m1) ∧ ∀ j, j < 7 → F' j = F j := by
  simp only [olgd_7, agd_none, gdAt, gdV_bool, gdV_undef, List.append_eq, List.cons_append, List.nil_append, apure_call1, apure_call2, apure_call3, bft, btf, acodeN, List.getElem?_toArray, List.getElem?_cons_zero, List.getElem?_cons_succ, aopsN, adrawT, cls, astep, aop, afloat, ev, nth_lst, get_lst, aput, setAt_lst, upd_at, init_zero, init_succ, init_nil, Nat.reduceLT, Nat.reduceEqDiff, reduceIte, abuiltin, alen, Option.map_some, Option.map_none, orElse_some, apure_add, apure_eqlV, eqlVal_str, eqlVal_bool, eqlVal_ptr, eqlVal_slice, eqlVal_wide, eqlVal_int, allT, ↓aop_eqlV, apure_neq, List.map_cons, List.map_nil, List.all_cons, List.all_nil, lit2, lit1, lit0, List.isEmpty_nil, bls, Bool.false_eq_true, if_true, if_false, List.length_map, beq_self_eq_true, uns, h1, h4, ld, st]
  exact ⟨_, rfl, fun j hj => by repeat rw [upd_ne (by omega)]⟩
theorem lgd_it (cd : CDw self) (cf : CFu self) (hT : TabT M) (h1 : F 1 = .pointer (some ⟨p, 0, none⟩)) (h3 : F 3 = .string t) (hp : M[p]? = some (.row false 24 (rowOf (wN y)))) (hpg : p ≠ 2) (hy : y < W8) (hD : DgAt X y t i) (hi : i ≤ 8) :
    (∃ G m' s, acodeN E self nf lplgd_0 (lst F 29) M = some (.ret, lst G 29, m') ∧ G 2 = .string s ∧ decOk (natsOf s) = true ∧ decV (natsOf s) = X ∧ (natsOf s).length ≤ 200) ∨
    (∃ G m' t', acodeN E self nf lplgd_0 (lst F 29) M = some (.normal, lst G 29, m') ∧ TabT m' ∧ G 1 = .pointer (some ⟨p, 0, none⟩) ∧ G 3 = .string t' ∧ m'[p]? = some (.row false 24 (rowOf (wN (y / 10000000000000000000)))) ∧ DgAt X (y / 10000000000000000000) t' (i + 1)) := by
  obtain ⟨r, hr⟩ : ∃ r, r = y / 10000000000000000000 := ⟨_, rfl⟩
  obtain ⟨l, hl⟩ : ∃ l, l = y % 10000000000000000000 := ⟨_, rfl⟩
  have hl9 : l < 10000000000000000000 := by rw [hl]; exact Nat.mod_lt _ (by decide)
  have hr8 : r < W8 := by rw [hr]; exact Nat.lt_of_le_of_lt (Nat.div_le_self _ _) hy
  have hrl : r * 10000000000000000000 + l = y := by rw [hr, hl, Nat.mul_comm]; exact Nat.div_add_mod _ _
  have hd : ∀ M, ainv E self 22 [wd y, .int .u64 10000000000000000000] M = some (.tuple ⟨[wd r, U l]⟩, M) := by
    rw [hr, hl]
    exact cd y 10000000000000000000 hy (by decide) (by decide)
  rw [← hr]
  clear hr hl
  obtain ⟨s, hs, cf9⟩ := cf l (by omega)
  obtain ⟨m1, m2, ha, st, gq, kp⟩ : ∃ m1 m2, aalloc E.P 24 M = some (.pointer (some ⟨M.length, 0, none⟩), m1) ∧ astore E.P 24 (.pointer (some ⟨M.length, 0, none⟩)) (wd r) m1 = some m2 ∧ m2[M.length]? = some (.row false 24 (rowOf (wN r))) ∧ Kept M m2 := by
    have ha := alloc24 M
    have g : (M ++ [Blk.row false 24 (rowOf fun _ => 0)])[M.length]? = some (.row false 24 (rowOf fun _ => 0)) := by rw [List.getElem?_append_right (Nat.le_refl _)]; simp
    have st := store24 (w := wN r) g (rowOf_length _)
    refine ⟨_, _, ha, st, by rw [List.getElem?_set_self (lt_of_at g)], by simp, fun j hj => ?_⟩
    rw [List.getElem?_set_ne (by omega), List.getElem?_append_left hj]
  have hT2 := hT.keep kp
  have hp2 : m2[p]? = some (.row false 24 (rowOf (wN y))) := (kp.2 p (lt_of_at hp)).trans hp
  have hf := cf9 m2 hT2
  have ls : s.data.toList.length = Lib.nDigits l := by rw [← natsOf_len, hs, decs_len]
  have ls9 : Lib.nDigits l ≤ 19 := nDigits_le (k := 19) (by omega) (by omega)
  have lt9 : (natsOf t).length = 19 * i := hD.len
  obtain ⟨A, ra, a4, a5, ak⟩ := lgd_2 (self := self) (nf := nf) h1 (load24 hp) hd ha st
  obtain ⟨B, rb', b6, bk⟩ := lgd_3 (self := self) (nf := nf) (M := m2) a5 hf
  obtain ⟨C, rc, c16, ck⟩ := lgd_4 (self := self) (nf := nf) (M := m2) ((bk 4 (by omega)).trans a4) (load24 gq) (fun a c => eqlWd0 (a := a) (b := c) hr8)
  have kc : ∀ j, j < 4 → C j = F j := fun j hj => (ck j (by omega)).trans ((bk j (by omega)).trans (ak j hj))
  have c3 := (kc 3 (by omega)).trans h3
  have c6 := (ck 6 (by omega)).trans b6
  have hs1 : s.size ≤ 19 := by rw [size_nats, hs, decs_len]; exact ls9
  have hs2 : t.size ≤ 152 := by rw [size_nats, lt9]; omega
  by_cases h0 : r = 0
  · left
    rw [decide_eq_true h0] at c16
    obtain ⟨D, rd, d2⟩ := lgd_5 (self := self) (nf := nf) (M := m2) c6 c3 (by omega)
    have hyl : y = l := by
      have h9 := hrl
      rw [h0, Nat.zero_mul, Nat.zero_add] at h9
      exact h9.symm
    have hpos : natsOf t = [] ∨ 0 < l := by
      rcases hD.pos with e | e
      · left
        exact List.eq_nil_of_length_eq_zero (by rw [lt9, e])
      · right; omega
    obtain ⟨o1, o2⟩ := decOk_of (U := l) hD.ok hpos
    refine ⟨D, m2, s ++ t, ?_, d2, ?_, ?_, ?_⟩
    · rw [lplgd_0_eq]
      clear hd hf st ha gq hp2 hT2
      generalize Code.region 2 rlgd_2 false = C2 at *
      generalize Code.region 3 rlgd_3 false = C3 at *
      generalize Code.region 4 rlgd_4 false = C4 at *
      generalize Code.region 5 rlgd_5 false = C5 at *
      simp only [acodeN, ra, rb', rc, rd, ev, nth_lst, Nat.reduceLT, if_true, c16]
    · rw [natsOf_app, hs]; exact o1
    · rw [natsOf_app, hs, o2, lt9, ← hyl]; exact hD.sum
    · rw [natsOf_app, List.length_append, hs, decs_len, lt9]; omega
  · right
    rw [decide_eq_false h0] at c16
    have lz : (natsOf (zs (19 - s.data.toList.length))).length = 19 - s.data.toList.length := by rw [natsOf_zs, List.length_replicate]
    obtain ⟨D, rd, d3, dk⟩ := lgd_6 (self := self) (nf := nf) (M := m2) c6 c3 (by omega) (by rw [size_nats, lz]; omega) (by rw [size_nats, natsOf_app, List.length_append, lz, natsOf_len]; omega)
    have st2 := store24 (w := wN r) hp2 (rowOf_length _)
    have kd : ∀ j, j ≠ 3 → j < 4 → D j = F j := fun j h hj => (dk j h (by omega)).trans (kc j hj)
    obtain ⟨H, rh, hk⟩ := lgd_7 (self := self) (nf := nf) (M := m2) ((kd 1 (by omega) (by omega)).trans h1) ((dk 4 (by omega) (by omega)).trans ((ck 4 (by omega)).trans ((bk 4 (by omega)).trans a4))) (load24 gq) st2
    refine ⟨H, m2.set p (.row false 24 (rowOf (wN r))), zs (19 - s.data.toList.length) ++ s ++ t, ?_, ?_, (hk 1 (by omega)).trans ((kd 1 (by omega) (by omega)).trans h1), (hk 3 (by omega)).trans d3, by rw [List.getElem?_set_self (lt_of_at hp2)], ?_⟩
    · rw [lplgd_0_eq]
      clear hd hf st ha gq hp2 hT2 st2
      generalize m2.set p (.row false 24 (rowOf (wN r))) = m9 at *
      generalize Code.region 2 rlgd_2 false = C2 at *
      generalize Code.region 3 rlgd_3 false = C3 at *
      generalize Code.region 4 rlgd_4 false = C4 at *
      generalize Code.region 6 rlgd_6 false = C6 at *
      generalize Code.region 7 rlgd_7 false = C7 at *
      simp only [acodeN, ra, rb', rc, rd, rh, ev, nth_lst, Nat.reduceLT, if_true, c16]
    · unfold TabT at *
      rw [List.getElem?_set_ne (by omega)]
      exact hT2
    · have e1 : natsOf (zs (19 - s.data.toList.length) ++ s ++ t) = List.replicate (19 - s.data.toList.length) 48 ++ decs l ++ natsOf t := by rw [natsOf_app, natsOf_app, natsOf_zs, hs]
      refine ⟨?_, ?_, ?_, .inr (Nat.pos_of_ne_zero h0)⟩
      · rw [e1]
        exact digitsOk_append (digitsOk_append (digitsOk_zeros _) (decs_ok l)) hD.ok
      · rw [e1, List.length_append, List.length_append, List.length_replicate, decs_len, lt9]
        omega
      · rw [e1, decV_append, decV_append, decV_zeros, decs_val, Nat.zero_mul, Nat.zero_add, lt9]
        have hs9 := hD.sum
        rw [← hrl] at hs9
        rw [← hs9, show 19 * (i + 1) = 19 + 19 * i by omega, Nat.pow_add, show (10 : Nat) ^ 19 = 10000000000000000000 by decide, ← Nat.mul_assoc, Nat.add_mul, Nat.add_assoc]
theorem lgd_body (cd : CDw self) (cf : CFu self) (hT : TabT m) (hX : X < W8) (hnf : 100 < nf) : ∃ s m', abody E self nf 12 [wd X] m = some (.string s, m') ∧ decOk (natsOf s) = true ∧ decV (natsOf s) = X ∧ (natsOf s).length ≤ 200 := by
  rw [abody_eqF (by kernel_rfl) Tryd.func12 bodylgd (by kernel_rfl) (Nat.le_of_ble_eq_true rfl)]
  rw [show Tryd.f12.ntmps = 29 from rfl]
  have b1 := box24 (wN X) m
  obtain ⟨M, hM⟩ : ∃ M, M = m ++ [Blk.row false 24 (rowOf (wN X))] := ⟨_, rfl⟩
  rw [← hM] at b1
  have hp : M[m.length]? = some (.row false 24 (rowOf (wN X))) := by rw [hM]; simp
  have hT2 : TabT M := by rw [hM]; exact hT.app
  have hpg : m.length ≠ 2 := by
    have := lt_of_at hT
    omega
  clear hM
  have hloop := aloop_inv (body := acodeN E self nf lplgd_0) (N := 9)
    (I := fun i T m' => ∃ G y t, T = lst G 29 ∧ TabT m' ∧ G 1 = .pointer (some ⟨m.length, 0, none⟩) ∧ G 3 = .string t ∧ m'[m.length]? = some (.row false 24 (rowOf (wN y))) ∧ y < W8 ∧ DgAt X y t i)
    (Q := fun e T m' => e = .ret ∧ ∃ G s, T = lst G 29 ∧ G 2 = .string s ∧ decOk (natsOf s) = true ∧ decV (natsOf s) = X ∧ (natsOf s).length ≤ 200) (fun i T m' hi hI => by
      obtain ⟨G, y, t, rfl, gT, g1, g3, gp, gy, gD⟩ := hI
      have h8 := gD.le hX
      rcases lgd_it (self := self) (nf := nf) cd cf gT g1 g3 gp hpg gy gD h8 with ⟨H, m2, s, hr, h2, o1, o2, o3⟩ | ⟨H, m2, t', hr, hT9, h1, h3, hp9, hD9⟩
      · right
        exact ⟨_, _, _, hr, by simp, rfl, H, s, rfl, h2, o1, o2, o3⟩
      · left
        exact ⟨_, _, hr, by omega, H, _, t', rfl, hT9, h1, h3, hp9, Nat.lt_of_le_of_lt (Nat.div_le_self _ _) gy, hD9⟩)
  obtain ⟨e, T', m', hr, rfl, G, s, rfl, g2, o1, o2, o3⟩ := hloop 9 0 nf (lst (upd (upd (upd (init [wd X]) 1 (.pointer (some ⟨m.length, 0, none⟩))) 2 (.string ⟨#[]⟩)) 3 (.string ⟨#[]⟩)) 29) M (by omega) (by omega) ⟨_, X, ⟨#[]⟩, rfl, hT2, rfl, rfl, hp, hX, ⟨rfl, rfl, by simp [natsOf, decV], .inl rfl⟩⟩
  refine ⟨s, m', ?_, o1, o2, o3⟩
  have b1' : abox E.P 24 (wd X) m = some (.pointer (some ⟨m.length, 0, none⟩), M) := b1
  generalize wd X = V at *
  simp only [olgd_0, olgd_1, olgd_2, olgd_3, olgd_4, olgd_5, olgd_6, olgd_7, agd_none, gdAt, gdV_bool, gdV_undef, List.append_eq, List.cons_append, List.nil_append, apure_call1, apure_call2, apure_call3, bft, btf, acodeN, List.getElem?_toArray, List.getElem?_cons_zero, List.getElem?_cons_succ, aopsN, adrawT, cls, astep, aop, afloat, ev, nth_lst, get_lst, aput, setAt_lst, upd_at, init_zero, init_succ, init_nil, Nat.reduceLT, Nat.reduceEqDiff, reduceIte, abuiltin, alen, Option.map_some, Option.map_none, orElse_some, apure_add, apure_eqlV, eqlVal_str, eqlVal_bool, eqlVal_ptr, eqlVal_slice, eqlVal_wide, eqlVal_int, allT, ↓aop_eqlV, apure_neq, List.map_cons, List.map_nil, List.all_cons, List.all_nil, lit2, lit1, lit0, List.isEmpty_nil, bls, Bool.false_eq_true, if_true, if_false, List.length_map, beq_self_eq_true, uns, b1', hr, g2, finish, ares, aresL, ares1, Tryd.f12]
end
def CDgW (self : Self) : Prop := ∀ x, x < W8 → ∀ M : Mem, TabT M → ∃ s, decOk (natsOf s) = true ∧ decV (natsOf s) = x ∧ (natsOf s).length ≤ 200 ∧ ainv E self 12 [wd x] M = some (.string s, M)
end Go.Am.Seat
namespace Go.Am.Seat
open Go.Proofs Go.Am Go.Am.Num Go.Am.Kn
section
variable {self : Self} {nf : Nat} {m : Mem} {F : Nat → Value} {w : Nat → Nat} {p n l : Nat}
end
end Go.Am.Seat
namespace Go.Am.Seat
open Go.Proofs Go.Am Go.Am.Num Go.Am.Kn
theorem neqWd {x y : Nat} {a b : Operand} (hx : x < W8) (hy : y < W8) : neqVal E.P 24 a b (wd x) (wd y) = some (.bool !(decide (x = y))) := by
  have h := neqVal_arr a24w (by kernel_rfl) (by kernel_rfl) (by kernel_rfl) (x := a) (y := b) (wN x) (wN y)
  rw [all_wN hx hy] at h
  exact h
noncomputable def neqI (P : Program) (s : TypeId) (x y : Operand) (u v : Value) : Option Value := match u with
  | .int k a => (match v with
    | .int k' b => (match abin .neq k a k' b with
      | some w => some w
      | none => neqVal P s x y u v)
    | _ => neqVal P s x y u v)
  | _ => neqVal P s x y u v
theorem aop_neqI {P : Program} {T : List Value} {m : Mem} {d : Option Tmp} {s t ty : TypeId} {x y : Operand} {pos : String} {af : Array Edge} {g : Option (Nat × Bool)} :
    aop P T m { dst := d, op := .binOp .neq s x y t, type := ty, pos := pos, after := af, guard := g } = (neqI P s x y (ev T x) (ev T y)).map (·, m) := by
  have hp := apure_neqV (P := P) (T := T) (d := d) (s := s) (t := t) (ty := ty) (x := x) (y := y) (pos := pos) (af := af) (g := g)
  unfold aop neqI
  simp only
  cases hx : ev T x with
  | int k a =>
    cases hy : ev T y with
    | int k' b =>
      simp only
      cases abin .neq k a k' b with
      | some w => rfl
      | none => simp only; rw [hp, hx, hy]
    | _ => simp only; rw [hp, hx, hy]
  | _ => simp only; rw [hp, hx]
theorem notW (b : Bool) : apU E.P .not 4 4 (.bool b) = some (.bool !b) := by cases b <;> kernel_rfl
section
variable {self : Self} {nf : Nat} {m : Mem} {F : Nat → Value} {w v o : Nat → Nat} {p q s : Nat}
end
end Go.Am.Seat
namespace Go.Am.Seat
open Go.Proofs Go.Am Go.Am.Num Go.Am.Kn
section
variable {self : Self} {nf : Nat} {x y : Nat}
end
noncomputable abbrev RL : Nat → Self := fun n => runK E mem1 K1 n
theorem hRL : Runs RL K1 := runsK mem1 K1
theorem noL1 : NoL K1 := by
  have h : (limbFs.all fun f => !hasF K1 f) = true := by kernel_rfl
  intro f hf
  have := List.all_eq_true.1 h f hf
  simpa using this
end Go.Am.Seat
namespace Go.Am.Seat
open Go.Proofs Go.Am
theorem wf_u64 {n : Int} (h : (Lit.int .u64 n).wf = true) : 0 ≤ n ∧ n < 18446744073709551616 := by
  unfold Lit.wf at h
  simp only [Bool.and_eq_true, decide_eq_true_eq] at h
  have h1 : IntKind.u64.min = 0 := by decide
  have h2 : IntKind.u64.max = 18446744073709551615 := by decide
  rw [h1, h2] at h
  omega
def fnOf (l : List Int) (j : Nat) : Nat := (l.getD j 0).toNat
theorem fnOf_lt {l : List Int} (h : ∀ n, n ∈ l → (Lit.int .u64 n).wf = true) (j : Nat) : fnOf l j < 18446744073709551616 := by
  unfold fnOf
  rw [List.getD_eq_getElem?_getD]
  cases hg : l[j]? with
  | none => decide
  | some n =>
    have := wf_u64 (h n (List.mem_of_getElem? hg))
    show n.toNat < _
    omega
theorem words_wide {l : List Int} (hl : l.length = 8) (h : ∀ n, n ∈ l → (Lit.int .u64 n).wf = true) : Value.agg ⟨l.map (Value.int .u64)⟩ = wide (fnOf l) := by
  unfold wide
  congr 2
  apply List.ext_getElem?
  intro j
  by_cases hj : j < 8
  · have hg : l[j]? = some l[j] := by simp [hl, hj]
    rw [rowOf_get hj, List.getElem?_map, hg]
    have := wf_u64 (h l[j] (by simp))
    unfold fnOf
    rw [List.getD_eq_getElem?_getD, hg]
    show some (Value.int .u64 l[j]) = some (Value.int .u64 ((l[j].toNat : Nat) : Int))
    rw [Int.toNat_of_nonneg this.1]
  · rw [List.getElem?_eq_none (by rw [List.length_map, hl]; omega), List.getElem?_eq_none (by rw [rowOf_length]; omega)]
end Go.Am.Seat
namespace Go.Am.Seat
open Go.Proofs Go.Am
end Go.Am.Seat
namespace Go.Am.Seat
open Go.Proofs Go.Am Go.Am.Num Go.Am.Kn
theorem neqI_i64 (a b : Int) {s : TypeId} {x y : Operand} : neqI E.P s x y (.int .i64 a) (.int .i64 b) = some (.bool (a != b)) := by
  unfold neqI
  simp only [show abin .neq .i64 a .i64 b = some (.bool (a != b)) by kernel_rfl]
section
variable {self : Self} {nf : Nat} {m : Mem} {F : Nat → Value} {x y p q s : Nat} {w v o : Nat → Nat} {X Y : Value}
end
end Go.Am.Seat
namespace Go.Am.Seat
open Go.Proofs Go.Am Go.Am.Num Go.Am.Kn
theorem cLpa : callableB E.P 5 = true := by kernel_rfl
theorem cLdc : callableB E.P 9 = true := by kernel_rfl
theorem cRdc : callableB E.P 10 = true := by kernel_rfl
theorem cLby : callableB E.P 11 = true := by kernel_rfl
theorem cLgd : callableB E.P 12 = true := by kernel_rfl
theorem cRby : callableB E.P 13 = true := by kernel_rfl
theorem cWof : callableB E.P 14 = true := by kernel_rfl
theorem cAwk : callableB E.P 4 = true := by kernel_rfl
theorem cNum : callableB E.P 7 = true := by kernel_rfl
theorem cOf9 : callableB E.P 8 = true := by kernel_rfl
theorem cCmp9 : callableB E.P 6 = true := by kernel_rfl
noncomputable def afloatL (P : Program) (T : List Value) (o : Oper) : Option Value := afloat P T o
theorem afloat_eqlL {P : Program} {T : List Value} {d : Option Tmp} {s t ty : TypeId} {x y : Operand} {pos : String} {af : Array Edge} {g : Option (Nat × Bool)} : afloat P T { dst := d, op := .binOp .eql s x y t, type := ty, pos := pos, after := af, guard := g } = match eqlVal P s x y (ev T x) (ev T y) with
    | some v => some v
    | none => afloatL P T { dst := d, op := .binOp .eql s x y t, type := ty, pos := pos, after := af, guard := g } := by
  cases he : eqlVal P s x y (ev T x) (ev T y) with
  | none => rfl
  | some v =>
    have hp := (apure_eqlV (P := P) (T := T) (d := d) (s := s) (t := t) (ty := ty) (x := x) (y := y) (pos := pos) (af := af) (g := g)).trans he
    unfold afloat
    simp only [hp]
    cases hx : ev T x with
    | int k a =>
      cases hy : ev T y with
      | int k' b =>
        simp only
        by_cases hk : k = k'
        · subst hk
          rw [hx, hy, eqlVal_int] at he
          cases he
          have : abin .eql k a k b = some (.bool (a == b)) := by unfold abin; simp only [if_true]
          rw [this]
        · have : abin .eql k a k' b = none := by unfold abin; simp only [hk, if_false]
          rw [this]
      | _ => rfl
    | _ => rfl
section
variable {self : Self} {nf : Nat} {m m1 m2 M : Mem} {F : Nat → Value} {p q r x y n : Nat} {s t : ByteArray} {e : Int}
theorem llt_0 (h1 : F 1 = wd x) (hb : abox E.P 24 (wd x) m = some (.pointer (some ⟨p, 0, none⟩), m1)) : ∃ F', acodeN E self nf (.region 0 rllt_0 false) (lst F 119) m = some (.normal, lst F' 119, m1) ∧ F' 4 = .pointer (some ⟨p, 0, none⟩) ∧ ∀ j, j < 4 → F' j = F j := by
  generalize wd x = V at *
  simp only [ollt_0, agd_none, gdAt, gdV_bool, gdV_undef, List.append_eq, List.cons_append, List.nil_append, apure_call1, apure_call2, apure_call3, bft, btf, acodeN, List.getElem?_toArray, List.getElem?_cons_zero, List.getElem?_cons_succ, aopsN, adrawT, cls, astep, aop, afloat, ev, nth_lst, get_lst, aput, setAt_lst, upd_at, init_zero, init_succ, init_nil, Nat.reduceLT, Nat.reduceEqDiff, reduceIte, abuiltin, alen, Option.map_some, Option.map_none, orElse_some, apure_add, apure_eqlV, eqlVal_str, eqlVal_bool, eqlVal_ptr, eqlVal_slice, eqlVal_wide, eqlVal_int, allT, ↓aop_eqlV, apure_neq, List.map_cons, List.map_nil, List.all_cons, List.all_nil, lit2, lit1, lit0, List.isEmpty_nil, bls, Bool.false_eq_true, if_true, if_false, List.length_map, beq_self_eq_true, uns, h1, hb]
  exact ⟨_, rfl, by simp only [upd_at, Nat.reduceEqDiff, reduceIte], fun j hj => by repeat rw [upd_ne (by omega)]⟩
theorem llt_1 (ha : ainv E self 4 [] m = some (.bool true, m)) : ∃ F', acodeN E self nf (.region 1 rllt_1 false) (lst F 119) m = some (.normal, lst F' 119, m) ∧ F' 17 = .bool false ∧ ∀ j, j < 16 → F' j = F j := by
  simp only [ollt_1, agd_none, gdAt, gdV_bool, gdV_undef, List.append_eq, List.cons_append, List.nil_append, apure_call1, apure_call2, apure_call3, bft, btf, acodeN, List.getElem?_toArray, List.getElem?_cons_zero, List.getElem?_cons_succ, aopsN, adrawT, cls, astep, aop, afloat, ev, nth_lst, get_lst, aput, setAt_lst, upd_at, init_zero, init_succ, init_nil, Nat.reduceLT, Nat.reduceEqDiff, reduceIte, abuiltin, alen, Option.map_some, Option.map_none, orElse_some, apure_add, apure_eqlV, eqlVal_str, eqlVal_bool, eqlVal_ptr, eqlVal_slice, eqlVal_wide, eqlVal_int, allT, ↓aop_eqlV, apure_neq, List.map_cons, List.map_nil, List.all_cons, List.all_nil, lit2, lit1, lit0, List.isEmpty_nil, bls, Bool.false_eq_true, if_true, if_false, List.length_map, beq_self_eq_true, uns, cAwk, ha, apure_un, notW]
  exact ⟨_, rfl, by simp only [upd_at, Nat.reduceEqDiff, reduceIte], fun j hj => by repeat rw [upd_ne (by omega)]⟩
theorem llt_3 {b : Bool} (h0 : F 0 = .string s) (hb : decide (((s.data.toList.length : Nat) : Int) > 300) = b) : ∃ F', acodeN E self nf (.region 3 rllt_3 false) (lst F 119) m = some (.normal, lst F' 119, m) ∧ F' 20 = .bool b ∧ ∀ j, j < 16 → F' j = F j := by
  simp only [ollt_3, agd_none, gdAt, gdV_bool, gdV_undef, List.append_eq, List.cons_append, List.nil_append, apure_call1, apure_call2, apure_call3, bft, btf, acodeN, List.getElem?_toArray, List.getElem?_cons_zero, List.getElem?_cons_succ, aopsN, adrawT, cls, astep, aop, afloat, ev, nth_lst, get_lst, aput, setAt_lst, upd_at, init_zero, init_succ, init_nil, Nat.reduceLT, Nat.reduceEqDiff, reduceIte, abuiltin, alen, Option.map_some, Option.map_none, orElse_some, apure_add, apure_eqlV, eqlVal_str, eqlVal_bool, eqlVal_ptr, eqlVal_slice, eqlVal_wide, eqlVal_int, allT, ↓aop_eqlV, apure_neq, List.map_cons, List.map_nil, List.all_cons, List.all_nil, lit2, lit1, lit0, List.isEmpty_nil, bls, Bool.false_eq_true, if_true, if_false, List.length_map, beq_self_eq_true, uns, h0, len_S, alen, gtr64', hb]
  exact ⟨_, rfl, by simp only [upd_at, Nat.reduceEqDiff, reduceIte], fun j hj => by repeat rw [upd_ne (by omega)]⟩
theorem llt_4 : ∃ F', acodeN E self nf (.region 4 rllt_4 false) (lst F 119) m = some (.normal, lst F' 119, m) ∧ F' 6 = .bool true := by
  simp only [ollt_4, agd_none, gdAt, gdV_bool, gdV_undef, List.append_eq, List.cons_append, List.nil_append, apure_call1, apure_call2, apure_call3, bft, btf, acodeN, List.getElem?_toArray, List.getElem?_cons_zero, List.getElem?_cons_succ, aopsN, adrawT, cls, astep, aop, afloat, ev, nth_lst, get_lst, aput, setAt_lst, upd_at, init_zero, init_succ, init_nil, Nat.reduceLT, Nat.reduceEqDiff, reduceIte, abuiltin, alen, Option.map_some, Option.map_none, orElse_some, apure_add, apure_eqlV, eqlVal_str, eqlVal_bool, eqlVal_ptr, eqlVal_slice, eqlVal_wide, eqlVal_int, allT, ↓aop_eqlV, apure_neq, List.map_cons, List.map_nil, List.all_cons, List.all_nil, lit2, lit1, lit0, List.isEmpty_nil, bls, Bool.false_eq_true, if_true, if_false, List.length_map, beq_self_eq_true, uns]
  exact ⟨_, rfl, by simp only [upd_at, Nat.reduceEqDiff, reduceIte]⟩
theorem llt_5 {V : Value} (h0 : F 0 = .string s) (hc : ainv E self 5 [.string s] m = some (.tuple ⟨[V, .int .i64 e]⟩, m)) (ha : aalloc E.P 24 m = some (.pointer (some ⟨q, 0, none⟩), m1)) (st : astore E.P 24 (.pointer (some ⟨q, 0, none⟩)) V m1 = some m2) :
    ∃ F', acodeN E self nf (.region 5 rllt_5 false) (lst F 119) m = some (.normal, lst F' 119, m2) ∧ F' 7 = .pointer (some ⟨q, 0, none⟩) ∧ F' 8 = .int .i64 e ∧ ∀ j, j < 6 → F' j = F j := by
  simp only [ollt_5, agd_none, gdAt, gdV_bool, gdV_undef, List.append_eq, List.cons_append, List.nil_append, apure_call1, apure_call2, apure_call3, bft, btf, acodeN, List.getElem?_toArray, List.getElem?_cons_zero, List.getElem?_cons_succ, aopsN, adrawT, cls, astep, aop, afloat, ev, nth_lst, get_lst, aput, setAt_lst, upd_at, init_zero, init_succ, init_nil, Nat.reduceLT, Nat.reduceEqDiff, reduceIte, abuiltin, alen, Option.map_some, Option.map_none, orElse_some, apure_add, apure_eqlV, eqlVal_str, eqlVal_bool, eqlVal_ptr, eqlVal_slice, eqlVal_wide, eqlVal_int, allT, ↓aop_eqlV, apure_neq, List.map_cons, List.map_nil, List.all_cons, List.all_nil, lit2, lit1, lit0, List.isEmpty_nil, bls, Bool.false_eq_true, if_true, if_false, List.length_map, beq_self_eq_true, uns, h0, cLpa, hc, exW0, exW1, ha, st]
  exact ⟨_, rfl, by simp only [upd_at, Nat.reduceEqDiff, reduceIte], by simp only [upd_at, Nat.reduceEqDiff, reduceIte], fun j hj => by repeat rw [upd_ne (by omega)]⟩
theorem llt_6 {b : Bool} (h0 : F 0 = .string s) (hb : decide (((s.data.toList.length : Nat) : Int) > 64) = b) : ∃ F', acodeN E self nf (.region 6 rllt_6 false) (lst F 119) m = some (.normal, lst F' 119, m) ∧ F' 28 = .bool b ∧ ∀ j, j < 16 → F' j = F j := by
  simp only [ollt_6, agd_none, gdAt, gdV_bool, gdV_undef, List.append_eq, List.cons_append, List.nil_append, apure_call1, apure_call2, apure_call3, bft, btf, acodeN, List.getElem?_toArray, List.getElem?_cons_zero, List.getElem?_cons_succ, aopsN, adrawT, cls, astep, aop, afloat, ev, nth_lst, get_lst, aput, setAt_lst, upd_at, init_zero, init_succ, init_nil, Nat.reduceLT, Nat.reduceEqDiff, reduceIte, abuiltin, alen, Option.map_some, Option.map_none, orElse_some, apure_add, apure_eqlV, eqlVal_str, eqlVal_bool, eqlVal_ptr, eqlVal_slice, eqlVal_wide, eqlVal_int, allT, ↓aop_eqlV, apure_neq, List.map_cons, List.map_nil, List.all_cons, List.all_nil, lit2, lit1, lit0, List.isEmpty_nil, bls, Bool.false_eq_true, if_true, if_false, List.length_map, beq_self_eq_true, uns, h0, len_S, alen, gtr64', hb]
  exact ⟨_, rfl, by simp only [upd_at, Nat.reduceEqDiff, reduceIte], fun j hj => by repeat rw [upd_ne (by omega)]⟩
theorem llt_7 (h7 : F 7 = .pointer (some ⟨q, 0, none⟩)) (h8 : F 8 = .int .i64 5) (ld : aload E.P 24 (.pointer (some ⟨q, 0, none⟩)) m = some (wd 0)) : ∃ F', acodeN E self nf (.region 7 rllt_7 false) (lst F 119) m = some (.normal, lst F' 119, m) ∧ F' 35 = .bool false ∧ ∀ j, j < 16 → F' j = F j := by
  have n1 : ∀ i j, neqI E.P 24 i j (wd 0) (wide fun _ => 0) = some (.bool false) := fun i j => by rw [← wd_zero]; show neqVal E.P _ _ _ _ _ = _; rw [neqWd W8_pos W8_pos]; simp
  have q0 : ((5 : Int) != 5) = false := rfl
  generalize wd 0 = V at *
  simp only [ollt_7, gllt_7_2, agd_none, gdAt, gdV_bool, gdV_undef, List.append_eq, List.cons_append, List.nil_append, apure_call1, apure_call2, apure_call3, bft, btf, acodeN, List.getElem?_toArray, List.getElem?_cons_zero, List.getElem?_cons_succ, aopsN, adrawT, cls, astep, aop, afloat, ev, nth_lst, get_lst, aput, setAt_lst, upd_at, init_zero, init_succ, init_nil, Nat.reduceLT, Nat.reduceEqDiff, reduceIte, abuiltin, alen, Option.map_some, Option.map_none, orElse_some, apure_add, apure_eqlV, eqlVal_str, eqlVal_bool, eqlVal_ptr, eqlVal_slice, eqlVal_wide, eqlVal_int, allT, ↓aop_eqlV, apure_neq, List.map_cons, List.map_nil, List.all_cons, List.all_nil, lit2, lit1, lit0, List.isEmpty_nil, bls, Bool.false_eq_true, if_true, if_false, List.length_map, beq_self_eq_true, uns, ↓aop_neqI, h7, h8, neqI_i64, q0, ld, build24, n1]
  exact ⟨_, rfl, by simp only [upd_at, Nat.reduceEqDiff, reduceIte], fun j hj => by repeat rw [upd_ne (by omega)]⟩
theorem llt_9 {N V : Value} (h0 : F 0 = .string s) (h7 : F 7 = .pointer (some ⟨q, 0, none⟩)) (h8 : F 8 = .int .i64 0) (ld : aload E.P 24 (.pointer (some ⟨q, 0, none⟩)) m = some (wd y)) (e1 : ainv E self 7 [wd y] m = some (N, m1)) (e2 : ainv E self 8 [.string s] m1 = some (V, m2)) (e3 : ainv E self 6 [N, V] m2 = some (.int .i64 0, m2)) :
    ∃ F', acodeN E self nf (.region 9 rllt_9 false) (lst F 119) m = some (.normal, lst F' 119, m2) ∧ F' 45 = .bool false ∧ ∀ j, j < 16 → F' j = F j := by
  have q0 : ((0 : Int) != 0) = false := rfl
  generalize wd y = W at *
  simp only [ollt_9, gllt_9_2, agd_none, gdAt, gdV_bool, gdV_undef, List.append_eq, List.cons_append, List.nil_append, apure_call1, apure_call2, apure_call3, bft, btf, acodeN, List.getElem?_toArray, List.getElem?_cons_zero, List.getElem?_cons_succ, aopsN, adrawT, cls, astep, aop, afloat, ev, nth_lst, get_lst, aput, setAt_lst, upd_at, init_zero, init_succ, init_nil, Nat.reduceLT, Nat.reduceEqDiff, reduceIte, abuiltin, alen, Option.map_some, Option.map_none, orElse_some, apure_add, apure_eqlV, eqlVal_str, eqlVal_bool, eqlVal_ptr, eqlVal_slice, eqlVal_wide, eqlVal_int, allT, ↓aop_eqlV, apure_neq, List.map_cons, List.map_nil, List.all_cons, List.all_nil, lit2, lit1, lit0, List.isEmpty_nil, bls, Bool.false_eq_true, if_true, if_false, List.length_map, beq_self_eq_true, uns, ↓aop_neqI, h0, h7, h8, neqI_i64, q0, ld, cNum, e1, cOf9, e2, cCmp9, e3]
  exact ⟨_, rfl, by simp only [upd_at, Nat.reduceEqDiff, reduceIte], fun j hj => by repeat rw [upd_ne (by omega)]⟩
theorem llt_11 {V : Value} (h0 : F 0 = .string s) (hc : ainv E self 9 [.string s] m = some (.tuple ⟨[V, .int .i64 e]⟩, m)) (ha : aalloc E.P 24 m = some (.pointer (some ⟨q, 0, none⟩), m1)) (st : astore E.P 24 (.pointer (some ⟨q, 0, none⟩)) V m1 = some m2) :
    ∃ F', acodeN E self nf (.region 11 rllt_11 false) (lst F 119) m = some (.normal, lst F' 119, m2) ∧ F' 9 = .pointer (some ⟨q, 0, none⟩) ∧ F' 8 = .int .i64 e ∧ ∀ j, j < 6 → F' j = F j := by
  simp only [ollt_11, agd_none, gdAt, gdV_bool, gdV_undef, List.append_eq, List.cons_append, List.nil_append, apure_call1, apure_call2, apure_call3, bft, btf, acodeN, List.getElem?_toArray, List.getElem?_cons_zero, List.getElem?_cons_succ, aopsN, adrawT, cls, astep, aop, afloat, ev, nth_lst, get_lst, aput, setAt_lst, upd_at, init_zero, init_succ, init_nil, Nat.reduceLT, Nat.reduceEqDiff, reduceIte, abuiltin, alen, Option.map_some, Option.map_none, orElse_some, apure_add, apure_eqlV, eqlVal_str, eqlVal_bool, eqlVal_ptr, eqlVal_slice, eqlVal_wide, eqlVal_int, allT, ↓aop_eqlV, apure_neq, List.map_cons, List.map_nil, List.all_cons, List.all_nil, lit2, lit1, lit0, List.isEmpty_nil, bls, Bool.false_eq_true, if_true, if_false, List.length_map, beq_self_eq_true, uns, h0, cLdc, hc, exW0, exW1, ha, st]
  exact ⟨_, rfl, by simp only [upd_at, Nat.reduceEqDiff, reduceIte], by simp only [upd_at, Nat.reduceEqDiff, reduceIte], fun j hj => by repeat rw [upd_ne (by omega)]⟩
theorem llt_12 {N : Value} {b : Bool} (h0 : F 0 = .string s) (hc : ainv E self 10 [.string s] m = some (.tuple ⟨[N, .bool b]⟩, m1)) :
    ∃ F', acodeN E self nf (.region 12 rllt_12 false) (lst F 119) m = some (.normal, lst F' 119, m1) ∧ F' 10 = N ∧ F' 11 = .bool b ∧ ∀ j, j < 10 → F' j = F j := by
  simp only [ollt_12, agd_none, gdAt, gdV_bool, gdV_undef, List.append_eq, List.cons_append, List.nil_append, apure_call1, apure_call2, apure_call3, bft, btf, acodeN, List.getElem?_toArray, List.getElem?_cons_zero, List.getElem?_cons_succ, aopsN, adrawT, cls, astep, aop, afloat, ev, nth_lst, get_lst, aput, setAt_lst, upd_at, init_zero, init_succ, init_nil, Nat.reduceLT, Nat.reduceEqDiff, reduceIte, abuiltin, alen, Option.map_some, Option.map_none, orElse_some, apure_add, apure_eqlV, eqlVal_str, eqlVal_bool, eqlVal_ptr, eqlVal_slice, eqlVal_wide, eqlVal_int, allT, ↓aop_eqlV, apure_neq, List.map_cons, List.map_nil, List.all_cons, List.all_nil, lit2, lit1, lit0, List.isEmpty_nil, bls, Bool.false_eq_true, if_true, if_false, List.length_map, beq_self_eq_true, uns, h0, cRdc, hc, exW0, exW1]
  exact ⟨_, rfl, by simp only [upd_at, Nat.reduceEqDiff, reduceIte], by simp only [upd_at, Nat.reduceEqDiff, reduceIte], fun j hj => by repeat rw [upd_ne (by omega)]⟩
theorem llt_15 {b : Bool} (h11 : F 11 = .bool b) : ∃ F', acodeN E self nf (.region 15 rllt_15 false) (lst F 119) m = some (.normal, lst F' 119, m) ∧ F' 65 = .bool (!b) ∧ ∀ j, j < 16 → F' j = F j := by
  simp only [ollt_15, agd_none, gdAt, gdV_bool, gdV_undef, List.append_eq, List.cons_append, List.nil_append, apure_call1, apure_call2, apure_call3, bft, btf, acodeN, List.getElem?_toArray, List.getElem?_cons_zero, List.getElem?_cons_succ, aopsN, adrawT, cls, astep, aop, afloat, ev, nth_lst, get_lst, aput, setAt_lst, upd_at, init_zero, init_succ, init_nil, Nat.reduceLT, Nat.reduceEqDiff, reduceIte, abuiltin, alen, Option.map_some, Option.map_none, orElse_some, apure_add, apure_eqlV, eqlVal_str, eqlVal_bool, eqlVal_ptr, eqlVal_slice, eqlVal_wide, eqlVal_int, allT, ↓aop_eqlV, apure_neq, List.map_cons, List.map_nil, List.all_cons, List.all_nil, lit2, lit1, lit0, List.isEmpty_nil, bls, Bool.false_eq_true, if_true, if_false, List.length_map, beq_self_eq_true, uns, h11, apure_un, notW]
  exact ⟨_, rfl, by simp only [upd_at, Nat.reduceEqDiff, reduceIte], fun j hj => by repeat rw [upd_ne (by omega)]⟩
theorem llt_16 (h8 : F 8 = .int .i64 4) : ∃ F', acodeN E self nf (.region 16 rllt_16 false) (lst F 119) m = some (.normal, lst F' 119, m) ∧ F' 69 = .bool false ∧ ∀ j, j < 16 → F' j = F j := by
  have q0 : ((4 : Int) != 4) = false := rfl
  simp only [ollt_16, agd_none, gdAt, gdV_bool, gdV_undef, List.append_eq, List.cons_append, List.nil_append, apure_call1, apure_call2, apure_call3, bft, btf, acodeN, List.getElem?_toArray, List.getElem?_cons_zero, List.getElem?_cons_succ, aopsN, adrawT, cls, astep, aop, afloat, ev, nth_lst, get_lst, aput, setAt_lst, upd_at, init_zero, init_succ, init_nil, Nat.reduceLT, Nat.reduceEqDiff, reduceIte, abuiltin, alen, Option.map_some, Option.map_none, orElse_some, apure_add, apure_eqlV, eqlVal_str, eqlVal_bool, eqlVal_ptr, eqlVal_slice, eqlVal_wide, eqlVal_int, allT, ↓aop_eqlV, apure_neq, List.map_cons, List.map_nil, List.all_cons, List.all_nil, lit2, lit1, lit0, List.isEmpty_nil, bls, Bool.false_eq_true, if_true, if_false, List.length_map, beq_self_eq_true, uns, ↓aop_neqI, h8, neqI_i64, q0]
  exact ⟨_, rfl, by simp only [upd_at, Nat.reduceEqDiff, reduceIte], fun j hj => by repeat rw [upd_ne (by omega)]⟩
theorem llt_18 {N : Value} {b : Bool} (h10 : F 10 = N) (hN : lenV N = some ((n : Nat) : Int)) (hb : decide (((n : Nat) : Int) > 64) = b) : ∃ F', acodeN E self nf (.region 18 rllt_18 false) (lst F 119) m = some (.normal, lst F' 119, m) ∧ F' 70 = .bool b ∧ ∀ j, j < 16 → F' j = F j := by
  simp only [ollt_18, agd_none, gdAt, gdV_bool, gdV_undef, List.append_eq, List.cons_append, List.nil_append, apure_call1, apure_call2, apure_call3, bft, btf, acodeN, List.getElem?_toArray, List.getElem?_cons_zero, List.getElem?_cons_succ, aopsN, adrawT, cls, astep, aop, afloat, ev, nth_lst, get_lst, aput, setAt_lst, upd_at, init_zero, init_succ, init_nil, Nat.reduceLT, Nat.reduceEqDiff, reduceIte, len_N, abuiltin_app, Option.map_some, Option.map_none, orElse_some, apure_add, apure_eqlV, eqlVal_str, eqlVal_bool, eqlVal_ptr, eqlVal_slice, eqlVal_wide, eqlVal_int, allT, ↓aop_eqlV, apure_neq, List.map_cons, List.map_nil, List.all_cons, List.all_nil, lit2, lit1, lit0, List.isEmpty_nil, bls, Bool.false_eq_true, if_true, if_false, List.length_map, beq_self_eq_true, uns, h10, hN, gtr64', hb]
  exact ⟨_, rfl, by simp only [upd_at, Nat.reduceEqDiff, reduceIte], fun j hj => by repeat rw [upd_ne (by omega)]⟩
theorem llt_19 (h8 : F 8 = .int .i64 7) : ∃ F', acodeN E self nf (.region 19 rllt_19 false) (lst F 119) m = some (.normal, lst F' 119, m) ∧ F' 75 = .bool false ∧ ∀ j, j < 16 → F' j = F j := by
  have q0 : ((7 : Int) != 7) = false := rfl
  simp only [ollt_19, agd_none, gdAt, gdV_bool, gdV_undef, List.append_eq, List.cons_append, List.nil_append, apure_call1, apure_call2, apure_call3, bft, btf, acodeN, List.getElem?_toArray, List.getElem?_cons_zero, List.getElem?_cons_succ, aopsN, adrawT, cls, astep, aop, afloat, ev, nth_lst, get_lst, aput, setAt_lst, upd_at, init_zero, init_succ, init_nil, Nat.reduceLT, Nat.reduceEqDiff, reduceIte, abuiltin, alen, Option.map_some, Option.map_none, orElse_some, apure_add, apure_eqlV, eqlVal_str, eqlVal_bool, eqlVal_ptr, eqlVal_slice, eqlVal_wide, eqlVal_int, allT, ↓aop_eqlV, apure_neq, List.map_cons, List.map_nil, List.all_cons, List.all_nil, lit2, lit1, lit0, List.isEmpty_nil, bls, Bool.false_eq_true, if_true, if_false, List.length_map, beq_self_eq_true, uns, ↓aop_neqI, h8, neqI_i64, q0]
  exact ⟨_, rfl, by simp only [upd_at, Nat.reduceEqDiff, reduceIte], fun j hj => by repeat rw [upd_ne (by omega)]⟩
theorem llt_13 {N V : Value} (h9 : F 9 = .pointer (some ⟨q, 0, none⟩)) (h8 : F 8 = .int .i64 0) (h10 : F 10 = V) (ld : aload E.P 24 (.pointer (some ⟨q, 0, none⟩)) m = some (wd y)) (e1 : ainv E self 7 [wd y] m = some (N, m1)) (e3 : ainv E self 6 [N, V] m1 = some (.int .i64 0, m1)) :
    ∃ F', acodeN E self nf (.region 13 rllt_13 false) (lst F 119) m = some (.normal, lst F' 119, m1) ∧ F' 64 = .bool false ∧ ∀ j, j < 16 → F' j = F j := by
  have q0 : ((0 : Int) != 0) = false := rfl
  generalize wd y = W at *
  simp only [ollt_13, gllt_13_2, agd_none, gdAt, gdV_bool, gdV_undef, List.append_eq, List.cons_append, List.nil_append, apure_call1, apure_call2, apure_call3, bft, btf, acodeN, List.getElem?_toArray, List.getElem?_cons_zero, List.getElem?_cons_succ, aopsN, adrawT, cls, astep, aop, afloat, ev, nth_lst, get_lst, aput, setAt_lst, upd_at, init_zero, init_succ, init_nil, Nat.reduceLT, Nat.reduceEqDiff, reduceIte, abuiltin, alen, Option.map_some, Option.map_none, orElse_some, apure_add, apure_eqlV, eqlVal_str, eqlVal_bool, eqlVal_ptr, eqlVal_slice, eqlVal_wide, eqlVal_int, allT, ↓aop_eqlV, apure_neq, List.map_cons, List.map_nil, List.all_cons, List.all_nil, lit2, lit1, lit0, List.isEmpty_nil, bls, Bool.false_eq_true, if_true, if_false, List.length_map, beq_self_eq_true, uns, ↓aop_neqI, h8, h9, h10, neqI_i64, q0, ld, cNum, e1, cCmp9, e3]
  exact ⟨_, rfl, by simp only [upd_at, Nat.reduceEqDiff, reduceIte], fun j hj => by repeat rw [upd_ne (by omega)]⟩
theorem llt_21 {V : Value} (h4 : F 4 = .pointer (some ⟨p, 0, none⟩)) (ld : aload E.P 24 (.pointer (some ⟨p, 0, none⟩)) m = some (wd x)) (hb : ainv E self 11 [wd x] m = some (.string t, m)) (hc : ainv E self 5 [.string t] m = some (.tuple ⟨[V, .int .i64 e]⟩, m)) (ha : aalloc E.P 24 m = some (.pointer (some ⟨q, 0, none⟩), m1)) (st : astore E.P 24 (.pointer (some ⟨q, 0, none⟩)) V m1 = some m2) :
    ∃ F', acodeN E self nf (.region 21 rllt_21 false) (lst F 119) m = some (.normal, lst F' 119, m2) ∧ F' 12 = .pointer (some ⟨q, 0, none⟩) ∧ F' 13 = .int .i64 e ∧ ∀ j, j < 12 → F' j = F j := by
  generalize wd x = W at *
  simp only [ollt_21, agd_none, gdAt, gdV_bool, gdV_undef, List.append_eq, List.cons_append, List.nil_append, apure_call1, apure_call2, apure_call3, bft, btf, acodeN, List.getElem?_toArray, List.getElem?_cons_zero, List.getElem?_cons_succ, aopsN, adrawT, cls, astep, aop, afloat, ev, nth_lst, get_lst, aput, setAt_lst, upd_at, init_zero, init_succ, init_nil, Nat.reduceLT, Nat.reduceEqDiff, reduceIte, abuiltin, alen, Option.map_some, Option.map_none, orElse_some, apure_add, apure_eqlV, eqlVal_str, eqlVal_bool, eqlVal_ptr, eqlVal_slice, eqlVal_wide, eqlVal_int, allT, ↓aop_eqlV, apure_neq, List.map_cons, List.map_nil, List.all_cons, List.all_nil, lit2, lit1, lit0, List.isEmpty_nil, bls, Bool.false_eq_true, if_true, if_false, List.length_map, beq_self_eq_true, uns, h4, ld, cLby, hb, cLpa, hc, exW0, exW1, ha, st]
  exact ⟨_, rfl, by simp only [upd_at, Nat.reduceEqDiff, reduceIte], by simp only [upd_at, Nat.reduceEqDiff, reduceIte], fun j hj => by repeat rw [upd_ne (by omega)]⟩
theorem llt_22 {V : Value} (h4 : F 4 = .pointer (some ⟨p, 0, none⟩)) (ld : aload E.P 24 (.pointer (some ⟨p, 0, none⟩)) m = some (wd x)) (hb : ainv E self 12 [wd x] m = some (.string t, m)) (hc : ainv E self 9 [.string t] m = some (.tuple ⟨[V, .int .i64 e]⟩, m)) (ha : aalloc E.P 24 m = some (.pointer (some ⟨q, 0, none⟩), m1)) (st : astore E.P 24 (.pointer (some ⟨q, 0, none⟩)) V m1 = some m2) :
    ∃ F', acodeN E self nf (.region 22 rllt_22 false) (lst F 119) m = some (.normal, lst F' 119, m2) ∧ F' 14 = .pointer (some ⟨q, 0, none⟩) ∧ F' 15 = .int .i64 e ∧ ∀ j, j < 14 → F' j = F j := by
  generalize wd x = W at *
  simp only [ollt_22, agd_none, gdAt, gdV_bool, gdV_undef, List.append_eq, List.cons_append, List.nil_append, apure_call1, apure_call2, apure_call3, bft, btf, acodeN, List.getElem?_toArray, List.getElem?_cons_zero, List.getElem?_cons_succ, aopsN, adrawT, cls, astep, aop, afloat, ev, nth_lst, get_lst, aput, setAt_lst, upd_at, init_zero, init_succ, init_nil, Nat.reduceLT, Nat.reduceEqDiff, reduceIte, abuiltin, alen, Option.map_some, Option.map_none, orElse_some, apure_add, apure_eqlV, eqlVal_str, eqlVal_bool, eqlVal_ptr, eqlVal_slice, eqlVal_wide, eqlVal_int, allT, ↓aop_eqlV, apure_neq, List.map_cons, List.map_nil, List.all_cons, List.all_nil, lit2, lit1, lit0, List.isEmpty_nil, bls, Bool.false_eq_true, if_true, if_false, List.length_map, beq_self_eq_true, uns, h4, ld, cLgd, hb, cLdc, hc, exW0, exW1, ha, st]
  exact ⟨_, rfl, by simp only [upd_at, Nat.reduceEqDiff, reduceIte], by simp only [upd_at, Nat.reduceEqDiff, reduceIte], fun j hj => by repeat rw [upd_ne (by omega)]⟩
theorem llt_23 {N : Value} (h2 : F 2 = U n) (h4 : F 4 = .pointer (some ⟨p, 0, none⟩)) (h12 : F 12 = .pointer (some ⟨q, 0, none⟩)) (h13 : F 13 = .int .i64 0) (h14 : F 14 = .pointer (some ⟨r, 0, none⟩)) (h15 : F 15 = .int .i64 0) (hx : x < W8) (hn : n < 18446744073709551616)
    (gp : m[p]? = some (.row false 24 (rowOf (wN x)))) (gq : m[q]? = some (.row false 24 (rowOf (wN x)))) (gr : m[r]? = some (.row false 24 (rowOf (wN x)))) (kp : Kept m m1)
    (hb : ∀ M, ainv E self 11 [wd x] M = some (.string t, M)) (e1 : ainv E self 7 [wd x] m = some (N, m1)) (e2 : ainv E self 13 [N, .int .i64 64] (m1.map Am.sealed) = some (.string t, m1.map Am.sealed)) (ho : ∀ M, ainv E self 14 [U n] M = some (wd n, M)) :
    ∃ F', acodeN E self nf (.region 23 rllt_23 true) (lst F 119) m = some (.normal, lst F' 119, m1) ∧ F' 6 = .bool true := by
  have l1 : aload E.P 24 (.pointer (some ⟨p, 0, none⟩)) m = some (wd x) := load24 gp
  have l1s : aload E.P 24 (.pointer (some ⟨p, 0, none⟩)) (m.map Am.sealed) = some (wd x) := load24s gp
  have l2 : aload E.P 24 (.pointer (some ⟨p, 0, none⟩)) m1 = some (wd x) := load24 ((kp.2 _ (lt_of_at gp)).trans gp)
  have l2s : aload E.P 24 (.pointer (some ⟨p, 0, none⟩)) (m1.map Am.sealed) = some (wd x) := load24s ((kp.2 _ (lt_of_at gp)).trans gp)
  have l3 : aload E.P 24 (.pointer (some ⟨q, 0, none⟩)) m1 = some (wd x) := load24 ((kp.2 _ (lt_of_at gq)).trans gq)
  have l4 : aload E.P 24 (.pointer (some ⟨r, 0, none⟩)) m1 = some (wd x) := load24 ((kp.2 _ (lt_of_at gr)).trans gr)
  have l3s : aload E.P 24 (.pointer (some ⟨q, 0, none⟩)) (m1.map Am.sealed) = some (wd x) := load24s ((kp.2 _ (lt_of_at gq)).trans gq)
  have l4s : aload E.P 24 (.pointer (some ⟨r, 0, none⟩)) (m1.map Am.sealed) = some (wd x) := load24s ((kp.2 _ (lt_of_at gr)).trans gr)
  have q0 : ((0 : Int) == 0) = true := rfl
  have c1 : ∀ a b, eqlVal E.P 24 a b (wd x) (wd x) = some (.bool true) := fun a b => by rw [eqlWd hx hx]; simp
  have hn8 : n < W8 := Nat.lt_of_lt_of_le hn (by unfold W8; decide +kernel)
  have c2 : ∀ a b, eqlVal E.P 24 a b (wd n) (wide fun j => if j = 0 then n else 0) = some (.bool true) := fun a b => by rw [← wd_small hn, eqlWd hn8 hn8]; simp
  have bw := abuildOf n
  have ts : (t.toList == t.toList) = true := by simp
  have w1 : E.wr 11 = false := by kernel_rfl
  have w2 : E.wr 7 = false := by kernel_rfl
  have w3 : E.wr 13 = false := by kernel_rfl
  have w4 : E.wr 14 = false := by kernel_rfl
  have t1 : addrT E.P 4 9 = false := by kernel_rfl
  have t2 : addrT E.P 4 31 = true := by kernel_rfl
  have t3 : addrT E.P 4 24 = false := by kernel_rfl
  generalize (wide fun j => if j = 0 then n else 0) = W0 at *
  generalize wd n = V at *
  generalize wd x = W at *
  simp only [↓dllt_23, ↓sllt_23, ollt_23, gllt_23_6, gllt_23_10, gllt_23_15, gllt_23_19, gllt_23_24, agd_none, gdAt, gdV_bool, gdV_undef, List.append_eq, List.cons_append, List.nil_append, apure_call1, apure_call2, apure_call3, bft, btf, acodeN, List.getElem?_toArray, List.getElem?_cons_zero, List.getElem?_cons_succ, aopsN, adrawT, cls, astep, aop, afloat, ev, nth_lst, get_lst, aput, setAt_lst, upd_at, init_zero, init_succ, init_nil, Nat.reduceLT, Nat.reduceEqDiff, reduceIte, abuiltin, alen, Option.map_some, Option.map_none, orElse_some, apure_add, apure_eqlV, eqlVal_str, eqlVal_bool, eqlVal_ptr, eqlVal_slice, eqlVal_wide, eqlVal_int, allT, ↓aop_eqlV, apure_neq, List.map_cons, List.map_nil, List.all_cons, List.all_nil, lit2, lit1, lit0, List.isEmpty_nil, bls, Bool.false_eq_true, if_true, if_false, List.length_map, beq_self_eq_true, uns, ↓afloat_eqlL, h2, h4, h12, h13, h14, h15, l1, l1s, l2, l2s, l3, l3s, l4, l4s, cLby, hb, cNum, e1, cRby, e2, ts, eqlI', q0, c1, cWof, ho, apure_build1, bw, c2, w1, w2, w3, w4, t1, t2, t3]
  exact ⟨_, rfl, by simp only [upd_at, Nat.reduceEqDiff, reduceIte]⟩
end
end Go.Am.Seat
