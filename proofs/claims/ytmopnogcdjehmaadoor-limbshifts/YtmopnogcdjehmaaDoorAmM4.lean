/-
  The document's numbers on the abstract machine: Of, trim, Bit (own work).
-/
import Derived.Test.YtmopnogcdjehmaaDoorAmM3
set_option linter.unusedSimpArgs false
set_option linter.unusedVariables false
namespace Go.Am.Seat
open Go.Proofs Go.Am
set_option maxRecDepth 100000

theorem build27 (c : Int) (m : Mem) : abuildSlice E.P 27 1 [(0, .int .i64 c)] m = some (.slice (some ⟨m.length, 0, none⟩) 1 1, m ++ [.row false 3 [.int .i64 c]]) := by kernel_rfl
theorem calltrim : callableB E.P 51 = true := by kernel_rfl
theorem und27 : E.P.underlying 27 = some (.slice 3) := Tryd.underlying27
theorem info3 : ∃ i, E.P.info? 3 = some i ∧ i.size = 1 := by
  have h : (E.P.info? 3).map (·.size) = some 1 := by kernel_rfl
  exact Option.map_eq_some_iff.1 h
theorem load3 (b o : Nat) (m : Mem) : aload E.P 3 (.pointer (some ⟨b, o, none⟩)) m = cellAt m b o := aload_cell und3 rfl b o m
theorem ix27 {b L c j : Nat} (h : j < L) : aindexAddr E.P 27 (.slice (some ⟨b, 0, none⟩) L c) (.int .i64 (j : Nat)) = some (.pointer (some ⟨b, j, none⟩)) := by
  obtain ⟨i, h1, h2⟩ := info3
  unfold aindexAddr
  simp only [und27, h1, h2]
  rw [if_pos (by omega)]
  simp
theorem eql64 (a b : Int) : abin .eql .i64 a .i64 b = some (.bool (a == b)) := by kernel_rfl
theorem slice27 {m : Mem} {b n L : Nat} {ro : Bool} {cs : List Value} (h : m[b]? = some (.row ro 3 cs)) (hL : 0 < L) (hn : n ≤ L) : aslice E.P 27 (.slice (some ⟨b, 0, none⟩) L L) none (some (.int .i64 (n : Nat))) m = some (.slice (some ⟨b, 0, none⟩) n L) := by
  obtain ⟨i, h1, h2⟩ := info3
  unfold aslice
  simp only [und27, h1, lookRow h]
  unfold abounds abound
  simp only
  rw [if_pos (by omega)]
  simp only
  rw [if_neg (by omega)]
  simp

/-- Cells of numbers. -/
def cellsN (l : List Nat) : List Value := l.map fun x => .int .i64 ((x : Nat) : Int)
theorem cellsN_get {l : List Nat} {j x : Nat} (h : l[j]? = some x) : (cellsN l)[j]? = some (.int .i64 ((x : Nat) : Int)) := by
  unfold cellsN
  rw [List.getElem?_map, h]
  rfl
theorem cellsN_length (l : List Nat) : (cellsN l).length = l.length := by simp [cellsN]

section
variable {self : Self} {nf : Nat} {m : Mem} {F : Nat → Value} {s : ByteArray} {b L n i : Nat} {l : List Nat} {ro : Bool}

theorem iterOf (h0 : F 0 = .string s) (h4 : F 4 = .int .i64 (i : Nat)) {x : UInt8} (hx : s.data.toList[i]? = some x) (hS : SL m 3 (F 3) (cellsN l)) (hl : l.length ≤ 10000) (hi : i < 10000) :
    ∃ F' m', acodeN E self nf lprof_0 (lst F 20) m = some (.normal, lst F' 20, m') ∧ SL m' 3 (F' 3) (cellsN (l ++ [x.toNat])) ∧ F' 0 = .string s ∧ F' 4 = .int .i64 ((i + 1 : Nat) : Int) ∧ m.length ≤ m'.length ∧ (∀ b L c, F' 3 = .slice (some ⟨b, 0, none⟩) L c → m.length ≤ b) := by
  have hil := (List.getElem?_eq_some_iff.1 hx).1
  have hlt : decide (((i : Nat) : Int) < ((s.data.toList.length : Nat) : Int)) = true := decide_eq_true (by omega)
  have e2 := w1 (i := i) (by omega)
  generalize hv : F 3 = v at hS
  obtain ⟨v', m', happ, hS', hle, hfr⟩ := app1 rowNum (c := .int .i64 ((x.toNat : Nat) : Int)) rfl hS (by rw [cellsN_length]; omega)
  simp only [lprof_0_eq, erof_0, erof_1, erof_2, erof_3, erof_4, erof_5, erof_6, lrof_0, lrof_1, lrof_2, lrof_3, lrof_4, lrof_5, lrof_6, agd_none, gdAt, gdV_bool, gdV_undef, Tryd.f20, List.append_eq, List.cons_append, List.nil_append, apure_call1, apure_call2, apure_call3, bft, btf, acodeN, List.getElem?_toArray, List.getElem?_cons_zero, List.getElem?_cons_succ, aopsN, adrawT, cls, astep, aop, afloat, ev, nth_lst, get_lst, aput, setAt_lst, upd_at, init_zero, init_succ, init_nil, Nat.reduceLT, Nat.reduceEqDiff, reduceIte, abuiltin, alen, Option.map_some, Option.map_none, orElse_some, apure_add, apure_eql, apure_neq, List.map_cons, List.map_nil, List.all_cons, List.all_nil, lit2, lit1, lit0, List.isEmpty_nil, Bool.and_self, Bool.and_true, Bool.true_and, Bool.false_and, Bool.and_false, Bool.not_true, Bool.not_false, Bool.or_true, Bool.true_or, Bool.false_or, Bool.or_false, Bool.false_eq_true, if_true, if_false, List.length_map, beq_self_eq_true, und3, und4, und5, und9, h0, h4, hv, lss64, hlt, index9 hx, conv5_3, bw3, build27, happ, add64', e2]
  refine ⟨_, _, rfl, ?_, by simp only [upd_at, Nat.reduceEqDiff, reduceIte, h0], by simp only [upd_at, Nat.reduceEqDiff, reduceIte], hle, fun b L c h => by simp only [upd_at, Nat.reduceEqDiff, reduceIte] at h; exact hfr b L c h⟩
  simp only [upd_at, Nat.reduceEqDiff, reduceIte]
  unfold cellsN at hS' ⊢
  rw [List.map_append]
  exact hS'

theorem lastOf (h0 : F 0 = .string s) (h4 : F 4 = .int .i64 (i : Nat)) (hi : s.data.toList.length ≤ i) : ∃ F', acodeN E self nf lprof_0 (lst F 20) m = some (.exit 0, lst F' 20, m) ∧ F' 3 = F 3 := by
  have hlt : decide (((i : Nat) : Int) < ((s.data.toList.length : Nat) : Int)) = false := decide_eq_false (by omega)
  simp only [lprof_0_eq, erof_0, erof_1, erof_2, erof_3, erof_4, erof_5, erof_6, lrof_0, lrof_1, lrof_2, lrof_3, lrof_4, lrof_5, lrof_6, agd_none, gdAt, gdV_bool, gdV_undef, Tryd.f20, List.append_eq, List.cons_append, List.nil_append, apure_call1, apure_call2, apure_call3, bft, btf, acodeN, List.getElem?_toArray, List.getElem?_cons_zero, List.getElem?_cons_succ, aopsN, adrawT, cls, astep, aop, afloat, ev, nth_lst, get_lst, aput, setAt_lst, upd_at, init_zero, init_succ, init_nil, Nat.reduceLT, Nat.reduceEqDiff, reduceIte, abuiltin, alen, Option.map_some, Option.map_none, orElse_some, apure_add, apure_eql, apure_neq, List.map_cons, List.map_nil, List.all_cons, List.all_nil, lit2, lit1, lit0, List.isEmpty_nil, Bool.and_self, Bool.and_true, Bool.true_and, Bool.false_and, Bool.and_false, Bool.not_true, Bool.not_false, Bool.or_true, Bool.true_or, Bool.false_or, Bool.or_false, Bool.false_eq_true, if_true, if_false, List.length_map, beq_self_eq_true, und3, und4, und5, und9, h0, h4, lss64, hlt]
  exact ⟨_, rfl, by simp only [upd_at, Nat.reduceEqDiff, reduceIte]⟩

/-- A text's bytes. -/
def natsOf (s : ByteArray) : List Nat := s.data.toList.map (·.toNat)

theorem of_body (hs : s.data.toList.length ≤ 1000) (h0 : 0 < s.data.toList.length) (hf : 1000 < nf)
    (hT : ∀ (M : Mem) (b : Nat), M[b]? = some (.row false 3 (cellsN (natsOf s))) → ainv E self 51 [.slice (some ⟨b, 0, none⟩) s.data.toList.length s.data.toList.length] M = some (.slice (some ⟨b, 0, none⟩) n s.data.toList.length, M)) :
    ∃ b m', abody E self nf 20 [.string s] m = some (.slice (some ⟨b, 0, none⟩) n s.data.toList.length, m') ∧ m'[b]? = some (.row false 3 (cellsN (natsOf s))) ∧ m.length ≤ b := by
  rw [abody_eqF (by kernel_rfl) Tryd.func20 bodyrof (by kernel_rfl) (Nat.le_of_ble_eq_true rfl)]
  rw [show Tryd.f20.ntmps = 20 from rfl]
  have hloop := aloop_inv (body := acodeN E self nf lprof_0) (N := s.data.toList.length)
    (I := fun i T m' => ∃ G, T = lst G 20 ∧ SL m' 3 (G 3) (cellsN ((natsOf s).take i)) ∧ G 0 = .string s ∧ G 4 = .int .i64 (i : Nat) ∧ (∀ b L c, G 3 = .slice (some ⟨b, 0, none⟩) L c → m.length ≤ b) ∧ m.length ≤ m'.length)
    (Q := fun e T m' => e = .exit 0 ∧ ∃ G, T = lst G 20 ∧ SL m' 3 (G 3) (cellsN (natsOf s)) ∧ (∀ b L c, G 3 = .slice (some ⟨b, 0, none⟩) L c → m.length ≤ b)) (fun i T m' hi hI => by
      obtain ⟨G, rfl, gS, g0, g4, gb, hle⟩ := hI
      by_cases hlt : i < s.data.toList.length
      · left
        have hx : s.data.toList[i]? = some s.data.toList[i] := by simp [hlt]
        have htl : ((natsOf s).take i).length ≤ 10000 := by rw [List.length_take]; omega
        obtain ⟨F', m2, hr, fS, f0, f4, hle2, hfb⟩ := iterOf (self := self) (nf := nf) g0 g4 hx gS htl (by omega)
        refine ⟨_, _, hr, hlt, F', rfl, ?_, f0, f4, fun b L c h => Nat.le_trans hle (hfb b L c h), Nat.le_trans hle hle2⟩
        have : (natsOf s).take (i + 1) = (natsOf s).take i ++ [s.data.toList[i].toNat] := by
          rw [List.take_add_one]
          unfold natsOf
          rw [List.getElem?_map, hx]
          rfl
        rw [this]
        exact fS
      · right
        obtain ⟨F', hr, f3⟩ := lastOf (self := self) (nf := nf) (m := m') g0 g4 (by omega)
        rw [List.take_of_length_le (by unfold natsOf; rw [List.length_map]; omega)] at gS
        exact ⟨_, _, _, hr, by simp, rfl, F', rfl, by rw [f3]; exact gS, by rw [f3]; exact gb⟩)
  obtain ⟨e, T', m', hr, rfl, G, rfl, gS, gb⟩ := hloop s.data.toList.length 0 nf (lst (upd (upd (upd (init [.string s]) 2 (.slice none 0 0)) 3 (.slice none 0 0)) 4 (.int .i64 0)) 20) m (by omega) (by omega) ⟨_, rfl, .inl ⟨rfl, rfl⟩, rfl, rfl, fun b L c h => by simp [upd] at h, Nat.le_refl _⟩
  have hnl : (cellsN (natsOf s)).length = s.data.toList.length := by rw [cellsN_length]; unfold natsOf; rw [List.length_map]
  rcases gS with ⟨h9, _⟩ | ⟨b, g3, hb, _⟩
  · have := congrArg List.length h9
    rw [hnl, List.length_nil] at this
    omega
  · rw [hnl] at g3
    have hT := hT m' b hb
    simp only [erof_0, erof_1, erof_2, erof_3, erof_4, erof_5, erof_6, lrof_0, lrof_1, lrof_2, lrof_3, lrof_4, lrof_5, lrof_6, agd_none, gdAt, gdV_bool, gdV_undef, Tryd.f20, List.append_eq, List.cons_append, List.nil_append, apure_call1, apure_call2, apure_call3, bft, btf, acodeN, List.getElem?_toArray, List.getElem?_cons_zero, List.getElem?_cons_succ, aopsN, adrawT, cls, astep, aop, afloat, ev, nth_lst, get_lst, aput, setAt_lst, upd_at, init_zero, init_succ, init_nil, Nat.reduceLT, Nat.reduceEqDiff, reduceIte, abuiltin, alen, Option.map_some, Option.map_none, orElse_some, apure_add, apure_eql, apure_neq, List.map_cons, List.map_nil, List.all_cons, List.all_nil, lit2, lit1, lit0, List.isEmpty_nil, Bool.and_self, Bool.and_true, Bool.true_and, Bool.false_and, Bool.and_false, Bool.not_true, Bool.not_false, Bool.or_true, Bool.true_or, Bool.false_or, Bool.or_false, Bool.false_eq_true, if_true, if_false, List.length_map, beq_self_eq_true, und3, und4, und5, und9, hr, g3, calltrim, hT, finish, ares, aresL, ares1]
    exact ⟨b, m', rfl, hb, gb _ _ _ g3⟩

theorem iterTrm {c : Nat} (h0 : F 0 = .slice (some ⟨b, 0, none⟩) L c) (h3 : F 3 = .int .i64 ((n + 1 : Nat) : Int)) (hn : n < L) (hL : L ≤ 100000) (hb : m[b]? = some (.row ro 3 (cellsN l))) (hx : l[n]? = some 0) :
    ∃ F', acodeN E self nf lptrm_0 (lst F 21) m = some (.normal, lst F' 21, m) ∧ F' 0 = F 0 ∧ F' 3 = .int .i64 (n : Nat) := by
  have hgt : decide (((n + 1 : Nat) : Int) > 0) = true := decide_eq_true (by omega)
  have e1 : wrapF .i64 (((n + 1 : Nat) : Int) - 1) = ((n : Nat) : Int) := by rw [wrap_i64 (by omega) (by omega)]; omega
  have i1 := ix27 (b := b) (c := c) hn
  have c1 : cellAt m b n = some (.int .i64 ((0 : Nat) : Int)) := by rw [cellAt_row hb, cellsN_get hx]
  have q1 : (((0 : Nat) : Int) == 0) = true := rfl
  simp only [lptrm_0_eq, etrm_0, etrm_1, etrm_2, etrm_3, etrm_4, ltrm_0, ltrm_1, ltrm_2, ltrm_3, ltrm_4, gtrm_2_2, agd_none, gdAt, gdV_bool, gdV_undef, Tryd.f51, List.append_eq, List.cons_append, List.nil_append, apure_call1, apure_call2, apure_call3, bft, btf, acodeN, List.getElem?_toArray, List.getElem?_cons_zero, List.getElem?_cons_succ, aopsN, adrawT, cls, astep, aop, afloat, ev, nth_lst, get_lst, aput, setAt_lst, upd_at, init_zero, init_succ, init_nil, Nat.reduceLT, Nat.reduceEqDiff, reduceIte, abuiltin, alen, Option.map_some, Option.map_none, orElse_some, apure_add, apure_eql, apure_neq, List.map_cons, List.map_nil, List.all_cons, List.all_nil, lit2, lit1, lit0, List.isEmpty_nil, Bool.and_self, Bool.and_true, Bool.true_and, Bool.false_and, Bool.and_false, Bool.not_true, Bool.not_false, Bool.or_true, Bool.true_or, Bool.false_or, Bool.or_false, Bool.false_eq_true, if_true, if_false, List.length_map, beq_self_eq_true, und3, und4, und5, und9, h0, h3, gtr64', hgt, sub64', e1, i1, load3, c1, eql64, q1]
  exact ⟨_, rfl, by simp only [upd_at, Nat.reduceEqDiff, reduceIte, h0], by simp only [upd_at, Nat.reduceEqDiff, reduceIte]⟩

theorem lastTrm {c : Nat} (h0 : F 0 = .slice (some ⟨b, 0, none⟩) L c) (h3 : F 3 = .int .i64 (n : Nat)) (hn : n ≤ L) (hL : L ≤ 100000) (hb : m[b]? = some (.row ro 3 (cellsN l))) (hx : n = 0 ∨ ∃ x, 0 < x ∧ l[n - 1]? = some x) :
    ∃ F', acodeN E self nf lptrm_0 (lst F 21) m = some (.exit 0, lst F' 21, m) ∧ F' 0 = F 0 ∧ F' 3 = F 3 := by
  rcases hx with rfl | ⟨x, hx0, hx⟩
  · have hgt : decide (((0 : Nat) : Int) > 0) = false := rfl
    simp only [lptrm_0_eq, etrm_0, etrm_1, etrm_2, etrm_3, etrm_4, ltrm_0, ltrm_1, ltrm_2, ltrm_3, ltrm_4, gtrm_2_2, agd_none, gdAt, gdV_bool, gdV_undef, Tryd.f51, List.append_eq, List.cons_append, List.nil_append, apure_call1, apure_call2, apure_call3, bft, btf, acodeN, List.getElem?_toArray, List.getElem?_cons_zero, List.getElem?_cons_succ, aopsN, adrawT, cls, astep, aop, afloat, ev, nth_lst, get_lst, aput, setAt_lst, upd_at, init_zero, init_succ, init_nil, Nat.reduceLT, Nat.reduceEqDiff, reduceIte, abuiltin, alen, Option.map_some, Option.map_none, orElse_some, apure_add, apure_eql, apure_neq, List.map_cons, List.map_nil, List.all_cons, List.all_nil, lit2, lit1, lit0, List.isEmpty_nil, Bool.and_self, Bool.and_true, Bool.true_and, Bool.false_and, Bool.and_false, Bool.not_true, Bool.not_false, Bool.or_true, Bool.true_or, Bool.false_or, Bool.or_false, Bool.false_eq_true, if_true, if_false, List.length_map, beq_self_eq_true, und3, und4, und5, und9, h0, h3, gtr64', hgt]
    exact ⟨_, rfl, by simp only [upd_at, Nat.reduceEqDiff, reduceIte, h0], by simp only [upd_at, Nat.reduceEqDiff, reduceIte, h3]⟩
  · by_cases hn0 : n = 0
    · subst hn0
      have hgt : decide (((0 : Nat) : Int) > 0) = false := rfl
      simp only [lptrm_0_eq, etrm_0, etrm_1, etrm_2, etrm_3, etrm_4, ltrm_0, ltrm_1, ltrm_2, ltrm_3, ltrm_4, gtrm_2_2, agd_none, gdAt, gdV_bool, gdV_undef, Tryd.f51, List.append_eq, List.cons_append, List.nil_append, apure_call1, apure_call2, apure_call3, bft, btf, acodeN, List.getElem?_toArray, List.getElem?_cons_zero, List.getElem?_cons_succ, aopsN, adrawT, cls, astep, aop, afloat, ev, nth_lst, get_lst, aput, setAt_lst, upd_at, init_zero, init_succ, init_nil, Nat.reduceLT, Nat.reduceEqDiff, reduceIte, abuiltin, alen, Option.map_some, Option.map_none, orElse_some, apure_add, apure_eql, apure_neq, List.map_cons, List.map_nil, List.all_cons, List.all_nil, lit2, lit1, lit0, List.isEmpty_nil, Bool.and_self, Bool.and_true, Bool.true_and, Bool.false_and, Bool.and_false, Bool.not_true, Bool.not_false, Bool.or_true, Bool.true_or, Bool.false_or, Bool.or_false, Bool.false_eq_true, if_true, if_false, List.length_map, beq_self_eq_true, und3, und4, und5, und9, h0, h3, gtr64', hgt]
      exact ⟨_, rfl, by simp only [upd_at, Nat.reduceEqDiff, reduceIte, h0], by simp only [upd_at, Nat.reduceEqDiff, reduceIte, h3]⟩
    · have hgt : decide (((n : Nat) : Int) > 0) = true := decide_eq_true (by omega)
      have e1 := wsub1 (a := n) (by omega) (by omega)
      have i1 := ix27 (b := b) (c := c) (show n - 1 < L by omega)
      have c1 : cellAt m b (n - 1) = some (.int .i64 ((x : Nat) : Int)) := by rw [cellAt_row hb, cellsN_get hx]
      have q1 : (((x : Nat) : Int) == 0) = false := by rw [beq_eq_false_iff_ne]; omega
      simp only [lptrm_0_eq, etrm_0, etrm_1, etrm_2, etrm_3, etrm_4, ltrm_0, ltrm_1, ltrm_2, ltrm_3, ltrm_4, gtrm_2_2, agd_none, gdAt, gdV_bool, gdV_undef, Tryd.f51, List.append_eq, List.cons_append, List.nil_append, apure_call1, apure_call2, apure_call3, bft, btf, acodeN, List.getElem?_toArray, List.getElem?_cons_zero, List.getElem?_cons_succ, aopsN, adrawT, cls, astep, aop, afloat, ev, nth_lst, get_lst, aput, setAt_lst, upd_at, init_zero, init_succ, init_nil, Nat.reduceLT, Nat.reduceEqDiff, reduceIte, abuiltin, alen, Option.map_some, Option.map_none, orElse_some, apure_add, apure_eql, apure_neq, List.map_cons, List.map_nil, List.all_cons, List.all_nil, lit2, lit1, lit0, List.isEmpty_nil, Bool.and_self, Bool.and_true, Bool.true_and, Bool.false_and, Bool.and_false, Bool.not_true, Bool.not_false, Bool.or_true, Bool.true_or, Bool.false_or, Bool.or_false, Bool.false_eq_true, if_true, if_false, List.length_map, beq_self_eq_true, und3, und4, und5, und9, h0, h3, gtr64', hgt, sub64', e1, i1, load3, c1, eql64, q1]
      exact ⟨_, rfl, by simp only [upd_at, Nat.reduceEqDiff, reduceIte, h0], by simp only [upd_at, Nat.reduceEqDiff, reduceIte, h3]⟩

/-- What is left of a row without the noughts at its end. -/
def TrimAt (l : List Nat) (n : Nat) : Prop := n ≤ l.length ∧ (∀ j, n ≤ j → j < l.length → l[j]? = some 0) ∧ (n = 0 ∨ ∃ x, 0 < x ∧ l[n - 1]? = some x)

theorem trim_body (hb : m[b]? = some (.row ro 3 (cellsN l))) (hl : 0 < l.length) (hl' : l.length ≤ 1000) (hf : 1000 < nf) :
    ∃ n, TrimAt l n ∧ abody E self nf 51 [.slice (some ⟨b, 0, none⟩) l.length l.length] m = some (.slice (some ⟨b, 0, none⟩) n l.length, m) := by
  rw [abody_eqF (by kernel_rfl) Tryd.func51 bodytrm (by kernel_rfl) (Nat.le_of_ble_eq_true rfl)]
  rw [show Tryd.f51.ntmps = 21 from rfl]
  have hloop := aloop_inv (body := acodeN E self nf lptrm_0) (N := l.length)
    (I := fun k T m' => m' = m ∧ (∀ j, l.length - k ≤ j → j < l.length → l[j]? = some 0) ∧ ∃ G, T = lst G 21 ∧ G 0 = .slice (some ⟨b, 0, none⟩) l.length l.length ∧ G 3 = .int .i64 ((l.length - k : Nat) : Int))
    (Q := fun e T m' => e = .exit 0 ∧ m' = m ∧ ∃ n G, TrimAt l n ∧ T = lst G 21 ∧ G 0 = .slice (some ⟨b, 0, none⟩) l.length l.length ∧ G 3 = .int .i64 (n : Nat)) (fun k T m' hk hI => by
      obtain ⟨rfl, hz, G, rfl, g0, g3⟩ := hI
      by_cases hmore : k < l.length ∧ l[l.length - k - 1]? = some 0
      · left
        have h9 : l.length - k = (l.length - (k + 1)) + 1 := by omega
        rw [h9] at g3
        obtain ⟨F', hr, f0, f3⟩ := iterTrm (self := self) (nf := nf) g0 g3 (by omega) (by omega) hb (by rw [show l.length - (k + 1) = l.length - k - 1 by omega]; exact hmore.2)
        refine ⟨_, _, hr, hmore.1, rfl, fun j hj hj2 => ?_, F', rfl, by rw [f0, g0], f3⟩
        by_cases hje : j = l.length - (k + 1)
        · rw [hje, show l.length - (k + 1) = l.length - k - 1 by omega]; exact hmore.2
        · exact hz j (by omega) hj2
      · right
        have hx : l.length - k = 0 ∨ ∃ x, 0 < x ∧ l[l.length - k - 1]? = some x := by
          by_cases hk2 : k < l.length
          · right
            have hlt : l.length - k - 1 < l.length := by omega
            refine ⟨l[l.length - k - 1], ?_, by simp [hlt]⟩
            rcases Nat.eq_zero_or_pos l[l.length - k - 1] with h0 | h0
            · exact absurd ⟨hk2, by rw [List.getElem?_eq_getElem hlt, h0]⟩ hmore
            · exact h0
          · left; omega
        obtain ⟨F', hr, f0, f3⟩ := lastTrm (self := self) (nf := nf) g0 g3 (by omega) (by omega) hb hx
        exact ⟨_, _, _, hr, by simp, rfl, rfl, l.length - k, F', ⟨by omega, hz, hx⟩, rfl, by rw [f0, g0], by rw [f3, g3]⟩)
  obtain ⟨e, T', m', hr, rfl, rfl, n, G, hT, rfl, g0, g3⟩ := hloop l.length 0 nf (lst (upd (upd (upd (upd (init [.slice (some ⟨b, 0, none⟩) l.length l.length]) 2 (.slice none 0 0)) 4 (.slice (some ⟨b, 0, none⟩) l.length l.length)) 5 (.int .i64 ((l.length : Nat) : Int))) 3 (.int .i64 ((l.length : Nat) : Int))) 21) m (by omega) (by omega) ⟨rfl, fun j h1 h2 => by omega, _, rfl, rfl, rfl⟩
  refine ⟨n, hT, ?_⟩
  have sl := slice27 (n := n) hb hl hT.1
  simp only [etrm_0, etrm_1, etrm_2, etrm_3, etrm_4, ltrm_0, ltrm_1, ltrm_2, ltrm_3, ltrm_4, gtrm_2_2, agd_none, gdAt, gdV_bool, gdV_undef, Tryd.f51, List.append_eq, List.cons_append, List.nil_append, apure_call1, apure_call2, apure_call3, bft, btf, acodeN, List.getElem?_toArray, List.getElem?_cons_zero, List.getElem?_cons_succ, aopsN, adrawT, cls, astep, aop, afloat, ev, nth_lst, get_lst, aput, setAt_lst, upd_at, init_zero, init_succ, init_nil, Nat.reduceLT, Nat.reduceEqDiff, reduceIte, abuiltin, alen, Option.map_some, Option.map_none, orElse_some, apure_add, apure_eql, apure_neq, List.map_cons, List.map_nil, List.all_cons, List.all_nil, lit2, lit1, lit0, List.isEmpty_nil, Bool.and_self, Bool.and_true, Bool.true_and, Bool.false_and, Bool.and_false, Bool.not_true, Bool.not_false, Bool.or_true, Bool.true_or, Bool.false_or, Bool.or_false, Bool.false_eq_true, if_true, if_false, List.length_map, beq_self_eq_true, und3, und4, und5, und9, und27, hr, g0, g3, sl, finish, ares, aresL, ares1]

theorem quo8 (k : Int) : abin .quo .i64 k .i64 8 = some (.int .i64 (wrapF .i64 (k.tdiv 8))) := by kernel_rfl
theorem rem8 (k : Int) : abin .rem .i64 k .i64 8 = some (.int .i64 (k.tmod 8)) := by kernel_rfl

theorem iterRbt {x k r : Nat} {iv : Int} (h1 : F 1 = .int .i64 iv) (h5 : F 5 = .int .i64 (x : Nat)) (h6 : F 6 = .int .i64 (k : Nat)) (hr : iv.tmod 8 = ((r : Nat) : Int)) (hk : k < r) (hr8 : r < 8) (hx : x < 1000000) :
    ∃ F', acodeN E self nf lprbt_0 (lst F 31) m = some (.normal, lst F' 31, m) ∧ F' 1 = F 1 ∧ F' 5 = .int .i64 ((x / 2 : Nat) : Int) ∧ F' 6 = .int .i64 ((k + 1 : Nat) : Int) := by
  have hlt : decide (((k : Nat) : Int) < ((r : Nat) : Int)) = true := decide_eq_true (by omega)
  have e2 := w1 (i := k) (by omega)
  have e3 : wrapF .i64 (((x : Nat) : Int).tdiv 2) = ((x / 2 : Nat) : Int) := by rw [Int.tdiv_eq_ediv_of_nonneg (by omega), wrap_i64 (by omega) (by omega)]; omega
  simp only [lprbt_0_eq, erbt_0, erbt_1, erbt_2, erbt_3, erbt_4, erbt_5, erbt_6, erbt_7, erbt_8, lrbt_0, lrbt_1, lrbt_2, lrbt_3, lrbt_4, lrbt_5, lrbt_6, lrbt_7, lrbt_8, grbt_1_2, agd_none, gdAt, gdV_bool, gdV_undef, Tryd.f36, List.append_eq, List.cons_append, List.nil_append, apure_call1, apure_call2, apure_call3, bft, btf, acodeN, List.getElem?_toArray, List.getElem?_cons_zero, List.getElem?_cons_succ, aopsN, adrawT, cls, astep, aop, afloat, ev, nth_lst, get_lst, aput, setAt_lst, upd_at, init_zero, init_succ, init_nil, Nat.reduceLT, Nat.reduceEqDiff, reduceIte, abuiltin, alen, Option.map_some, Option.map_none, orElse_some, apure_add, apure_eql, apure_neq, List.map_cons, List.map_nil, List.all_cons, List.all_nil, lit2, lit1, lit0, List.isEmpty_nil, Bool.and_self, Bool.and_true, Bool.true_and, Bool.false_and, Bool.and_false, Bool.not_true, Bool.not_false, Bool.or_true, Bool.true_or, Bool.false_or, Bool.or_false, Bool.false_eq_true, if_true, if_false, List.length_map, beq_self_eq_true, und3, und4, und5, und9, h1, h5, h6, rem8, hr, lss64, hlt, quo2, e3, add64', e2]
  exact ⟨_, rfl, by simp only [upd_at, Nat.reduceEqDiff, reduceIte, h1], by simp only [upd_at, Nat.reduceEqDiff, reduceIte], by simp only [upd_at, Nat.reduceEqDiff, reduceIte]⟩

theorem lastRbt {k r : Nat} {iv : Int} (h1 : F 1 = .int .i64 iv) (h6 : F 6 = .int .i64 (k : Nat)) (hr : iv.tmod 8 = ((r : Nat) : Int)) (hk : r ≤ k) :
    ∃ F', acodeN E self nf lprbt_0 (lst F 31) m = some (.exit 0, lst F' 31, m) ∧ F' 5 = F 5 := by
  have hlt : decide (((k : Nat) : Int) < ((r : Nat) : Int)) = false := decide_eq_false (by omega)
  simp only [lprbt_0_eq, erbt_0, erbt_1, erbt_2, erbt_3, erbt_4, erbt_5, erbt_6, erbt_7, erbt_8, lrbt_0, lrbt_1, lrbt_2, lrbt_3, lrbt_4, lrbt_5, lrbt_6, lrbt_7, lrbt_8, grbt_1_2, agd_none, gdAt, gdV_bool, gdV_undef, Tryd.f36, List.append_eq, List.cons_append, List.nil_append, apure_call1, apure_call2, apure_call3, bft, btf, acodeN, List.getElem?_toArray, List.getElem?_cons_zero, List.getElem?_cons_succ, aopsN, adrawT, cls, astep, aop, afloat, ev, nth_lst, get_lst, aput, setAt_lst, upd_at, init_zero, init_succ, init_nil, Nat.reduceLT, Nat.reduceEqDiff, reduceIte, abuiltin, alen, Option.map_some, Option.map_none, orElse_some, apure_add, apure_eql, apure_neq, List.map_cons, List.map_nil, List.all_cons, List.all_nil, lit2, lit1, lit0, List.isEmpty_nil, Bool.and_self, Bool.and_true, Bool.true_and, Bool.false_and, Bool.and_false, Bool.not_true, Bool.not_false, Bool.or_true, Bool.true_or, Bool.false_or, Bool.or_false, Bool.false_eq_true, if_true, if_false, List.length_map, beq_self_eq_true, und3, und4, und5, und9, h1, h6, rem8, hr, lss64, hlt]
  exact ⟨_, rfl, by simp only [upd_at, Nat.reduceEqDiff, reduceIte]⟩

/-- The document's bit. -/
def rbit (l : List Nat) (n : Nat) (i : Int) : Nat := if 0 ≤ i ∧ i / 8 < (n : Int) then l.getD (i.toNat / 8) 0 / 2 ^ (i.toNat % 8) % 2 else 0

theorem rbit_body {c : Nat} {iv : Int} (hb : m[b]? = some (.row ro 3 (cellsN l))) (hn : n ≤ l.length) (hl : l.length ≤ 1000) (hx : ∀ x, x ∈ l → x < 256) (hi : iv < 9223372036854775808) (hf : 10 < nf) :
    abody E self nf 36 [.slice (some ⟨b, 0, none⟩) n c, .int .i64 iv] m = some (.int .i64 ((rbit l n iv : Nat) : Int), m) := by
  rw [abody_eqF (by kernel_rfl) Tryd.func36 bodyrbt (by kernel_rfl) (Nat.le_of_ble_eq_true rfl)]
  rw [show Tryd.f36.ntmps = 31 from rfl]
  by_cases h1 : iv < 0
  · have d1 : decide (iv < 0) = true := decide_eq_true h1
    have hb0 : rbit l n iv = 0 := by unfold rbit; rw [if_neg (by omega)]
    rw [hb0]
    simp only [erbt_0, erbt_1, erbt_2, erbt_3, erbt_4, erbt_5, erbt_6, erbt_7, erbt_8, lrbt_0, lrbt_1, lrbt_2, lrbt_3, lrbt_4, lrbt_5, lrbt_6, lrbt_7, lrbt_8, grbt_1_2, agd_none, gdAt, gdV_bool, gdV_undef, Tryd.f36, List.append_eq, List.cons_append, List.nil_append, apure_call1, apure_call2, apure_call3, bft, btf, acodeN, List.getElem?_toArray, List.getElem?_cons_zero, List.getElem?_cons_succ, aopsN, adrawT, cls, astep, aop, afloat, ev, nth_lst, get_lst, aput, setAt_lst, upd_at, init_zero, init_succ, init_nil, Nat.reduceLT, Nat.reduceEqDiff, reduceIte, abuiltin, alen, Option.map_some, Option.map_none, orElse_some, apure_add, apure_eql, apure_neq, List.map_cons, List.map_nil, List.all_cons, List.all_nil, lit2, lit1, lit0, List.isEmpty_nil, Bool.and_self, Bool.and_true, Bool.true_and, Bool.false_and, Bool.and_false, Bool.not_true, Bool.not_false, Bool.or_true, Bool.true_or, Bool.false_or, Bool.or_false, Bool.false_eq_true, if_true, if_false, List.length_map, beq_self_eq_true, und3, und4, und5, und9, lss64, d1, finish, ares, aresL, ares1]
    rfl
  · have d1 : decide (iv < 0) = false := decide_eq_false h1
    obtain ⟨i, rfl⟩ := Int.eq_ofNat_of_zero_le (show 0 ≤ iv by omega)
    have e1 : wrapF .i64 (((i : Nat) : Int).tdiv 8) = ((i / 8 : Nat) : Int) := by rw [Int.tdiv_eq_ediv_of_nonneg (by omega), wrap_i64 (by omega) (by omega)]; omega
    by_cases h2 : n ≤ i / 8
    · have d2 : decide (((i / 8 : Nat) : Int) ≥ ((n : Nat) : Int)) = true := decide_eq_true (by omega)
      have hb0 : rbit l n ((i : Nat) : Int) = 0 := by unfold rbit; rw [if_neg (by omega)]
      rw [hb0]
      simp only [erbt_0, erbt_1, erbt_2, erbt_3, erbt_4, erbt_5, erbt_6, erbt_7, erbt_8, lrbt_0, lrbt_1, lrbt_2, lrbt_3, lrbt_4, lrbt_5, lrbt_6, lrbt_7, lrbt_8, grbt_1_2, agd_none, gdAt, gdV_bool, gdV_undef, Tryd.f36, List.append_eq, List.cons_append, List.nil_append, apure_call1, apure_call2, apure_call3, bft, btf, acodeN, List.getElem?_toArray, List.getElem?_cons_zero, List.getElem?_cons_succ, aopsN, adrawT, cls, astep, aop, afloat, ev, nth_lst, get_lst, aput, setAt_lst, upd_at, init_zero, init_succ, init_nil, Nat.reduceLT, Nat.reduceEqDiff, reduceIte, abuiltin, alen, Option.map_some, Option.map_none, orElse_some, apure_add, apure_eql, apure_neq, List.map_cons, List.map_nil, List.all_cons, List.all_nil, lit2, lit1, lit0, List.isEmpty_nil, Bool.and_self, Bool.and_true, Bool.true_and, Bool.false_and, Bool.and_false, Bool.not_true, Bool.not_false, Bool.or_true, Bool.true_or, Bool.false_or, Bool.or_false, Bool.false_eq_true, if_true, if_false, List.length_map, beq_self_eq_true, und3, und4, und5, und9, lss64, geq64, quo8, e1, und27, d1, d2, finish, ares, aresL, ares1]
      rfl
    · have d2 : decide (((i / 8 : Nat) : Int) ≥ ((n : Nat) : Int)) = false := decide_eq_false (by omega)
      have hlt : i / 8 < l.length := by omega
      have hg : l[i / 8]? = some (l.getD (i / 8) 0) := by rw [List.getD_eq_getElem?_getD, List.getElem?_eq_getElem hlt]; rfl
      have hx9 : l.getD (i / 8) 0 < 256 := hx _ (List.mem_of_getElem? hg)
      have i1 := ix27 (b := b) (c := c) (show i / 8 < n by omega)
      have c1 : cellAt m b (i / 8) = some (.int .i64 ((l.getD (i / 8) 0 : Nat) : Int)) := by rw [cellAt_row hb, cellsN_get hg]
      have hrm : ((i : Nat) : Int).tmod 8 = ((i % 8 : Nat) : Int) := by rw [Int.tmod_eq_emod_of_nonneg (by omega)]; omega
      have hloop := aloop_inv (body := acodeN E self nf lprbt_0) (N := i % 8)
        (I := fun k T m' => m' = m ∧ ∃ G, T = lst G 31 ∧ G 1 = .int .i64 ((i : Nat) : Int) ∧ G 5 = .int .i64 ((l.getD (i / 8) 0 / 2 ^ k : Nat) : Int) ∧ G 6 = .int .i64 (k : Nat))
        (Q := fun e T m' => e = .exit 0 ∧ m' = m ∧ ∃ G, T = lst G 31 ∧ G 5 = .int .i64 ((l.getD (i / 8) 0 / 2 ^ (i % 8) : Nat) : Int)) (fun k T m' hk hI => by
          obtain ⟨rfl, G, rfl, g1, g5, g6⟩ := hI
          by_cases hlt : k < i % 8
          · left
            obtain ⟨F', hr, f1, f5, f6⟩ := iterRbt (self := self) (nf := nf) (m := m') g1 g5 g6 hrm hlt (by omega) (Nat.lt_of_le_of_lt (Nat.div_le_self _ _) (by omega))
            refine ⟨_, _, hr, hlt, rfl, F', rfl, by rw [f1, g1], ?_, f6⟩
            rw [f5, Nat.div_div_eq_div_mul, Nat.pow_succ]
          · right
            have hke : k = i % 8 := by omega
            subst hke
            obtain ⟨F', hr, f5⟩ := lastRbt (self := self) (nf := nf) (m := m') g1 g6 hrm (Nat.le_refl _)
            exact ⟨_, _, _, hr, by simp, rfl, rfl, F', rfl, by rw [f5, g5]⟩)
      have hb0 : rbit l n ((i : Nat) : Int) = l.getD (i / 8) 0 / 2 ^ (i % 8) % 2 := by unfold rbit; rw [if_pos (by omega), Int.toNat_natCast]
      have e9 : (((l.getD (i / 8) 0 / 2 ^ (i % 8) : Nat) : Int)).tmod 2 = ((l.getD (i / 8) 0 / 2 ^ (i % 8) % 2 : Nat) : Int) := by rw [Int.tmod_eq_emod_of_nonneg (Int.natCast_nonneg _)]; rfl
      obtain ⟨e, T', m', hr, rfl, rfl, G, rfl, g5⟩ := hloop (i % 8) 0 nf (lst (upd (upd (upd (upd (upd (upd (upd (upd (upd (upd (upd (upd (upd (upd (upd (upd (upd (init [.slice (some ⟨b, 0, none⟩) n c, .int .i64 ((i : Nat) : Int)]) 4 (.int .i64 0)) 7 (.int .i64 ((i : Nat) : Int))) 8 (.bool false)) 9 (.bool false)) 10 (.int .i64 ((i : Nat) : Int))) 11 (.int .i64 ((i / 8 : Nat) : Int))) 12 (.slice (some ⟨b, 0, none⟩) n c)) 13 (.int .i64 ((n : Nat) : Int))) 14 (.bool false)) 15 (.bool false)) 16 (.slice (some ⟨b, 0, none⟩) n c)) 17 (.int .i64 ((i : Nat) : Int))) 18 (.int .i64 ((i / 8 : Nat) : Int))) 19 (.pointer (some ⟨b, i / 8, none⟩))) 20 (.int .i64 ((l.getD (i / 8) 0 : Nat) : Int))) 5 (.int .i64 ((l.getD (i / 8) 0 : Nat) : Int))) 6 (.int .i64 0)) 31) m (by omega) (by omega) ⟨rfl, _, rfl, rfl, by rw [Nat.pow_zero, Nat.div_one]; rfl, rfl⟩
      rw [hb0]
      simp only [erbt_0, erbt_1, erbt_2, erbt_3, erbt_4, erbt_5, erbt_6, erbt_7, erbt_8, lrbt_0, lrbt_1, lrbt_2, lrbt_3, lrbt_4, lrbt_5, lrbt_6, lrbt_7, lrbt_8, grbt_1_2, agd_none, gdAt, gdV_bool, gdV_undef, Tryd.f36, List.append_eq, List.cons_append, List.nil_append, apure_call1, apure_call2, apure_call3, bft, btf, acodeN, List.getElem?_toArray, List.getElem?_cons_zero, List.getElem?_cons_succ, aopsN, adrawT, cls, astep, aop, afloat, ev, nth_lst, get_lst, aput, setAt_lst, upd_at, init_zero, init_succ, init_nil, Nat.reduceLT, Nat.reduceEqDiff, reduceIte, abuiltin, alen, Option.map_some, Option.map_none, orElse_some, apure_add, apure_eql, apure_neq, List.map_cons, List.map_nil, List.all_cons, List.all_nil, lit2, lit1, lit0, List.isEmpty_nil, Bool.and_self, Bool.and_true, Bool.true_and, Bool.false_and, Bool.and_false, Bool.not_true, Bool.not_false, Bool.or_true, Bool.true_or, Bool.false_or, Bool.or_false, Bool.false_eq_true, if_true, if_false, List.length_map, beq_self_eq_true, und3, und4, und5, und9, lss64, geq64, quo8, e1, und27, d1, d2, i1, load3, c1, hr, g5, rem2, e9, finish, ares, aresL, ares1]
end
end Go.Am.Seat
