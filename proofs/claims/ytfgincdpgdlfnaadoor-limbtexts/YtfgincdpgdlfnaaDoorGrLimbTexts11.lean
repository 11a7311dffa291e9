/-
  Texts of my own, put together: M4, M5.
-/
import Derived.Test.YtfgincdpgdlfnaaDoorGrLimbTexts10
set_option linter.unusedSimpArgs false
set_option linter.unusedVariables false
set_option maxRecDepth 100000
namespace Go.Am.Seat
open Go.Proofs Go.Am
theorem build27 (c : Int) (m : Mem) : abuildSlice E.P 31 1 [(0, .int .i64 c)] m = some (.slice (some ⟨m.length, 0, none⟩) 1 1, m ++ [.row false 3 [.int .i64 c]]) := by kernel_rfl
theorem calltrim : callableB E.P 16 = true := by kernel_rfl
theorem und27 : E.P.underlying 31 = some (.slice 3) := Tryd.underlying31
theorem info3 : ∃ i, E.P.info? 3 = some i ∧ i.size = 1 := by
  have h : (E.P.info? 3).map (·.size) = some 1 := by kernel_rfl
  exact Option.map_eq_some_iff.1 h
theorem load3 (b o : Nat) (m : Mem) : aload E.P 3 (.pointer (some ⟨b, o, none⟩)) m = cellAt m b o := aload_cell und3 rfl b o m
theorem ix27 {b L c j : Nat} (h : j < L) : aindexAddr E.P 31 (.slice (some ⟨b, 0, none⟩) L c) (.int .i64 (j : Nat)) = some (.pointer (some ⟨b, j, none⟩)) := by
  obtain ⟨i, h1, h2⟩ := info3
  unfold aindexAddr
  simp only [und27, h1, h2]
  rw [if_pos (by omega)]
  simp
theorem eql64 (a b : Int) : abin .eql .i64 a .i64 b = some (.bool (a == b)) := by kernel_rfl
theorem slice27 {m : Mem} {b n L : Nat} {ro : Bool} {cs : List Value} (h : m[b]? = some (.row ro 3 cs)) (hL : 0 < L) (hn : n ≤ L) : aslice E.P 31 (.slice (some ⟨b, 0, none⟩) L L) none (some (.int .i64 (n : Nat))) m = some (.slice (some ⟨b, 0, none⟩) n L) := by
  obtain ⟨i, h1, h2⟩ := info3
  unfold aslice
  simp only [und27, h1, lookRow h]
  unfold abounds abound
  simp only
  rw [if_pos (by omega)]
  simp only
  rw [if_neg (by simp [h2]; omega)]
  simp
def cellsN (l : List Nat) : List Value := l.map fun x => .int .i64 ((x : Nat) : Int)
theorem cellsN_get {l : List Nat} {j x : Nat} (h : l[j]? = some x) : (cellsN l)[j]? = some (.int .i64 ((x : Nat) : Int)) := by
  unfold cellsN
  rw [List.getElem?_map, h]
  rfl
theorem cellsN_length (l : List Nat) : (cellsN l).length = l.length := by simp [cellsN]
section
variable {self : Self} {nf : Nat} {m : Mem} {F : Nat → Value} {s : ByteArray} {b L n i : Nat} {l : List Nat} {ro : Bool}
theorem iterOf (h0 : F 0 = .string s) (h4 : F 4 = .int .i64 (i : Nat)) {x : UInt8} (hx : s.data.toList[i]? = some x) (hS : SL m 3 (F 3) (cellsN l)) (hl : l.length ≤ 10000) (hi : i < 10000) :
    ∃ F' m', acodeN E self nf lprof_0 (lst F 20) m = some (.normal, lst F' 20, m') ∧ SL m' 3 (F' 3) (cellsN (l ++ [x.toNat])) ∧ F' 0 = .string s ∧ F' 4 = .int .i64 ((i + 1 : Nat) : Int) ∧ m.length ≤ m'.length ∧ (∀ b L c, F' 3 = .slice (some ⟨b, 0, none⟩) L c → m.length ≤ b) := by
  have hil := (List.getElem?_eq_some_iff.1 hx).1
  have hlt : decide (((i : Nat) : Int) < ((s.data.toList.length : Nat) : Int)) = true := decide_eq_true (by omega)
  have e2 := w1 (i := i) (by omega)
  generalize hv : F 3 = v at hS
  obtain ⟨v', m', happ, hS', hle, hfr⟩ := app1 rowNum (c := .int .i64 ((x.toNat : Nat) : Int)) rfl hS (by rw [cellsN_length]; omega)
  simp only [lprof_0_eq, erof_0, erof_1, erof_2, erof_3, erof_4, erof_5, erof_6, lrof_0, lrof_1, lrof_2, lrof_3, lrof_4, lrof_5, lrof_6, agd_none, gdAt, gdV_bool, gdV_undef, Tryd.f8, List.append_eq, List.cons_append, List.nil_append, apure_call1, apure_call2, apure_call3, bft, btf, acodeN, List.getElem?_toArray, List.getElem?_cons_zero, List.getElem?_cons_succ, aopsN, adrawT, cls, astep, aop, afloat, ev, nth_lst, get_lst, aput, setAt_lst, upd_at, init_zero, init_succ, init_nil, Nat.reduceLT, Nat.reduceEqDiff, reduceIte, abuiltin, alen, Option.map_some, Option.map_none, orElse_some, apure_add, apure_eql, apure_neq, List.map_cons, List.map_nil, List.all_cons, List.all_nil, lit2, lit1, lit0, List.isEmpty_nil, bls, Bool.false_eq_true, if_true, if_false, List.length_map, beq_self_eq_true, uns, h0, h4, hv, lss64, hlt, index9 hx, conv5_3, bw3, build27, happ, add64', e2]
  refine ⟨_, _, rfl, ?_, by simp only [upd_at, Nat.reduceEqDiff, reduceIte, h0], by simp only [upd_at, Nat.reduceEqDiff, reduceIte], hle, fun b L c h => by simp only [upd_at, Nat.reduceEqDiff, reduceIte] at h; exact hfr b L c h⟩
  simp only [upd_at, Nat.reduceEqDiff, reduceIte]
  unfold cellsN at hS' ⊢
  rw [List.map_append]
  exact hS'
theorem lastOf (h0 : F 0 = .string s) (h4 : F 4 = .int .i64 (i : Nat)) (hi : s.data.toList.length ≤ i) : ∃ F', acodeN E self nf lprof_0 (lst F 20) m = some (.exit 0, lst F' 20, m) ∧ F' 3 = F 3 := by
  have hlt : decide (((i : Nat) : Int) < ((s.data.toList.length : Nat) : Int)) = false := decide_eq_false (by omega)
  simp only [lprof_0_eq, erof_0, erof_1, erof_2, erof_3, erof_4, erof_5, erof_6, lrof_0, lrof_1, lrof_2, lrof_3, lrof_4, lrof_5, lrof_6, agd_none, gdAt, gdV_bool, gdV_undef, Tryd.f8, List.append_eq, List.cons_append, List.nil_append, apure_call1, apure_call2, apure_call3, bft, btf, acodeN, List.getElem?_toArray, List.getElem?_cons_zero, List.getElem?_cons_succ, aopsN, adrawT, cls, astep, aop, afloat, ev, nth_lst, get_lst, aput, setAt_lst, upd_at, init_zero, init_succ, init_nil, Nat.reduceLT, Nat.reduceEqDiff, reduceIte, abuiltin, alen, Option.map_some, Option.map_none, orElse_some, apure_add, apure_eql, apure_neq, List.map_cons, List.map_nil, List.all_cons, List.all_nil, lit2, lit1, lit0, List.isEmpty_nil, bls, Bool.false_eq_true, if_true, if_false, List.length_map, beq_self_eq_true, uns, h0, h4, lss64, hlt]
  exact ⟨_, rfl, by simp only [upd_at, Nat.reduceEqDiff, reduceIte]⟩
def natsOf (s : ByteArray) : List Nat := s.data.toList.map (·.toNat)
theorem of_body (hs : s.data.toList.length ≤ 1000) (h0 : 0 < s.data.toList.length) (hf : 1000 < nf)
    (hT : ∀ (M : Mem) (b : Nat), M[b]? = some (.row false 3 (cellsN (natsOf s))) → ainv E self 16 [.slice (some ⟨b, 0, none⟩) s.data.toList.length s.data.toList.length] M = some (.slice (some ⟨b, 0, none⟩) n s.data.toList.length, M)) :
    ∃ b m', abody E self nf 8 [.string s] m = some (.slice (some ⟨b, 0, none⟩) n s.data.toList.length, m') ∧ m'[b]? = some (.row false 3 (cellsN (natsOf s))) ∧ m.length ≤ b := by
  rw [abody_eqF (by kernel_rfl) Tryd.func8 bodyrof (by kernel_rfl) (Nat.le_of_ble_eq_true rfl)]
  rw [show Tryd.f8.ntmps = 20 from rfl]
  have hloop := aloop_inv (body := acodeN E self nf lprof_0) (N := s.data.toList.length)
    (I := fun i T m' => ∃ G, T = lst G 20 ∧ SL m' 3 (G 3) (cellsN ((natsOf s).take i)) ∧ G 0 = .string s ∧ G 4 = .int .i64 (i : Nat) ∧ (∀ b L c, G 3 = .slice (some ⟨b, 0, none⟩) L c → m.length ≤ b) ∧ m.length ≤ m'.length)
    (Q := fun e T m' => e = .exit 0 ∧ ∃ G, T = lst G 20 ∧ SL m' 3 (G 3) (cellsN (natsOf s)) ∧ (∀ b L c, G 3 = .slice (some ⟨b, 0, none⟩) L c → m.length ≤ b)) (fun i T m' hi hI => by
      obtain ⟨G, rfl, gS, g0, g4, gb, hle⟩ := hI
      by_cases hlt : i < s.data.toList.length
      · left
        have hx : s.data.toList[i]? = some s.data.toList[i] := by simp [hlt]
        have htl : ((natsOf s).take i).length ≤ 10000 := by rw [List.length_take]; omega
        obtain ⟨F', m2, hr, fS, f0, f4, hle2, hfb⟩ := iterOf (self := self) (nf := nf) g0 g4 hx gS htl (by omega)
        refine ⟨_, _, hr, hlt, F', rfl, ?_, f0, f4, fun b L c h => Nat.le_trans hle (hfb b L c h), Nat.le_trans hle hle2⟩
        have : (natsOf s).take (i + 1) = (natsOf s).take i ++ [s.data.toList[i].toNat] := by
          rw [List.take_add_one]
          unfold natsOf
          rw [List.getElem?_map, hx]
          rfl
        rw [this]
        exact fS
      · right
        obtain ⟨F', hr, f3⟩ := lastOf (self := self) (nf := nf) (m := m') g0 g4 (by omega)
        rw [List.take_of_length_le (by unfold natsOf; rw [List.length_map]; omega)] at gS
        exact ⟨_, _, _, hr, by simp, rfl, F', rfl, by rw [f3]; exact gS, by rw [f3]; exact gb⟩)
  obtain ⟨e, T', m', hr, rfl, G, rfl, gS, gb⟩ := hloop s.data.toList.length 0 nf (lst (upd (upd (upd (init [.string s]) 2 (.slice none 0 0)) 3 (.slice none 0 0)) 4 (.int .i64 0)) 20) m (by omega) (by omega) ⟨_, rfl, .inl ⟨rfl, rfl⟩, rfl, rfl, fun b L c h => by simp [upd] at h, Nat.le_refl _⟩
  have hnl : (cellsN (natsOf s)).length = s.data.toList.length := by rw [cellsN_length]; unfold natsOf; rw [List.length_map]
  rcases gS with ⟨h9, _⟩ | ⟨b, g3, hb, _⟩
  · have := congrArg List.length h9
    rw [hnl, List.length_nil] at this
    omega
  · rw [hnl] at g3
    have hT := hT m' b hb
    simp only [erof_0, erof_1, erof_2, erof_3, erof_4, erof_5, erof_6, lrof_0, lrof_1, lrof_2, lrof_3, lrof_4, lrof_5, lrof_6, agd_none, gdAt, gdV_bool, gdV_undef, Tryd.f8, List.append_eq, List.cons_append, List.nil_append, apure_call1, apure_call2, apure_call3, bft, btf, acodeN, List.getElem?_toArray, List.getElem?_cons_zero, List.getElem?_cons_succ, aopsN, adrawT, cls, astep, aop, afloat, ev, nth_lst, get_lst, aput, setAt_lst, upd_at, init_zero, init_succ, init_nil, Nat.reduceLT, Nat.reduceEqDiff, reduceIte, abuiltin, alen, Option.map_some, Option.map_none, orElse_some, apure_add, apure_eql, apure_neq, List.map_cons, List.map_nil, List.all_cons, List.all_nil, lit2, lit1, lit0, List.isEmpty_nil, bls, Bool.false_eq_true, if_true, if_false, List.length_map, beq_self_eq_true, uns, hr, g3, calltrim, hT, finish, ares, aresL, ares1]
    exact ⟨b, m', rfl, hb, gb _ _ _ g3⟩
theorem iterTrm {c : Nat} (h0 : F 0 = .slice (some ⟨b, 0, none⟩) L c) (h3 : F 3 = .int .i64 ((n + 1 : Nat) : Int)) (hn : n < L) (hL : L ≤ 100000) (hb : m[b]? = some (.row ro 3 (cellsN l))) (hx : l[n]? = some 0) :
    ∃ F', acodeN E self nf lptrm_0 (lst F 21) m = some (.normal, lst F' 21, m) ∧ F' 0 = F 0 ∧ F' 3 = .int .i64 (n : Nat) := by
  have hgt : decide (((n + 1 : Nat) : Int) > 0) = true := decide_eq_true (by omega)
  have e1 : wrapF .i64 (((n + 1 : Nat) : Int) - 1) = ((n : Nat) : Int) := by rw [wrap_i64 (by omega) (by omega)]; omega
  have i1 := ix27 (b := b) (c := c) hn
  have c1 : cellAt m b n = some (.int .i64 ((0 : Nat) : Int)) := by rw [cellAt_row hb, cellsN_get hx]
  have q1 : (((0 : Nat) : Int) == 0) = true := rfl
  simp only [lptrm_0_eq, etrm_0, etrm_1, etrm_2, etrm_3, etrm_4, ltrm_0, ltrm_1, ltrm_2, ltrm_3, ltrm_4, gtrm_2_2, agd_none, gdAt, gdV_bool, gdV_undef, Tryd.f16, List.append_eq, List.cons_append, List.nil_append, apure_call1, apure_call2, apure_call3, bft, btf, acodeN, List.getElem?_toArray, List.getElem?_cons_zero, List.getElem?_cons_succ, aopsN, adrawT, cls, astep, aop, afloat, ev, nth_lst, get_lst, aput, setAt_lst, upd_at, init_zero, init_succ, init_nil, Nat.reduceLT, Nat.reduceEqDiff, reduceIte, abuiltin, alen, Option.map_some, Option.map_none, orElse_some, apure_add, apure_eql, apure_neq, List.map_cons, List.map_nil, List.all_cons, List.all_nil, lit2, lit1, lit0, List.isEmpty_nil, bls, Bool.false_eq_true, if_true, if_false, List.length_map, beq_self_eq_true, uns, h0, h3, gtr64', hgt, sub64', e1, i1, load3, c1, eql64, q1]
  exact ⟨_, rfl, by simp only [upd_at, Nat.reduceEqDiff, reduceIte, h0], by simp only [upd_at, Nat.reduceEqDiff, reduceIte]⟩
theorem lastTrm {c : Nat} (h0 : F 0 = .slice (some ⟨b, 0, none⟩) L c) (h3 : F 3 = .int .i64 (n : Nat)) (hn : n ≤ L) (hL : L ≤ 100000) (hb : m[b]? = some (.row ro 3 (cellsN l))) (hx : n = 0 ∨ ∃ x, 0 < x ∧ l[n - 1]? = some x) :
    ∃ F', acodeN E self nf lptrm_0 (lst F 21) m = some (.exit 0, lst F' 21, m) ∧ F' 0 = F 0 ∧ F' 3 = F 3 := by
  rcases hx with rfl | ⟨x, hx0, hx⟩
  · have hgt : decide (((0 : Nat) : Int) > 0) = false := rfl
    simp only [lptrm_0_eq, etrm_0, etrm_1, etrm_2, etrm_3, etrm_4, ltrm_0, ltrm_1, ltrm_2, ltrm_3, ltrm_4, gtrm_2_2, agd_none, gdAt, gdV_bool, gdV_undef, Tryd.f16, List.append_eq, List.cons_append, List.nil_append, apure_call1, apure_call2, apure_call3, bft, btf, acodeN, List.getElem?_toArray, List.getElem?_cons_zero, List.getElem?_cons_succ, aopsN, adrawT, cls, astep, aop, afloat, ev, nth_lst, get_lst, aput, setAt_lst, upd_at, init_zero, init_succ, init_nil, Nat.reduceLT, Nat.reduceEqDiff, reduceIte, abuiltin, alen, Option.map_some, Option.map_none, orElse_some, apure_add, apure_eql, apure_neq, List.map_cons, List.map_nil, List.all_cons, List.all_nil, lit2, lit1, lit0, List.isEmpty_nil, bls, Bool.false_eq_true, if_true, if_false, List.length_map, beq_self_eq_true, uns, h0, h3, gtr64', hgt]
    exact ⟨_, rfl, by simp only [upd_at, Nat.reduceEqDiff, reduceIte, h0], by simp only [upd_at, Nat.reduceEqDiff, reduceIte, h3]⟩
  · by_cases hn0 : n = 0
    · subst hn0
      have hgt : decide (((0 : Nat) : Int) > 0) = false := rfl
      simp only [lptrm_0_eq, etrm_0, etrm_1, etrm_2, etrm_3, etrm_4, ltrm_0, ltrm_1, ltrm_2, ltrm_3, ltrm_4, gtrm_2_2, agd_none, gdAt, gdV_bool, gdV_undef, Tryd.f16, List.append_eq, List.cons_append, List.nil_append, apure_call1, apure_call2, apure_call3, bft, btf, acodeN, List.getElem?_toArray, List.getElem?_cons_zero, List.getElem?_cons_succ, aopsN, adrawT, cls, astep, aop, afloat, ev, nth_lst, get_lst, aput, setAt_lst, upd_at, init_zero, init_succ, init_nil, Nat.reduceLT, Nat.reduceEqDiff, reduceIte, abuiltin, alen, Option.map_some, Option.map_none, orElse_some, apure_add, apure_eql, apure_neq, List.map_cons, List.map_nil, List.all_cons, List.all_nil, lit2, lit1, lit0, List.isEmpty_nil, bls, Bool.false_eq_true, if_true, if_false, List.length_map, beq_self_eq_true, uns, h0, h3, gtr64', hgt]
      exact ⟨_, rfl, by simp only [upd_at, Nat.reduceEqDiff, reduceIte, h0], by simp only [upd_at, Nat.reduceEqDiff, reduceIte, h3]⟩
    · have hgt : decide (((n : Nat) : Int) > 0) = true := decide_eq_true (by omega)
      have e1 := wsub1 (a := n) (by omega) (by omega)
      have i1 := ix27 (b := b) (c := c) (show n - 1 < L by omega)
      have c1 : cellAt m b (n - 1) = some (.int .i64 ((x : Nat) : Int)) := by rw [cellAt_row hb, cellsN_get hx]
      have q1 : (((x : Nat) : Int) == 0) = false := by rw [beq_eq_false_iff_ne]; omega
      simp only [lptrm_0_eq, etrm_0, etrm_1, etrm_2, etrm_3, etrm_4, ltrm_0, ltrm_1, ltrm_2, ltrm_3, ltrm_4, gtrm_2_2, agd_none, gdAt, gdV_bool, gdV_undef, Tryd.f16, List.append_eq, List.cons_append, List.nil_append, apure_call1, apure_call2, apure_call3, bft, btf, acodeN, List.getElem?_toArray, List.getElem?_cons_zero, List.getElem?_cons_succ, aopsN, adrawT, cls, astep, aop, afloat, ev, nth_lst, get_lst, aput, setAt_lst, upd_at, init_zero, init_succ, init_nil, Nat.reduceLT, Nat.reduceEqDiff, reduceIte, abuiltin, alen, Option.map_some, Option.map_none, orElse_some, apure_add, apure_eql, apure_neq, List.map_cons, List.map_nil, List.all_cons, List.all_nil, lit2, lit1, lit0, List.isEmpty_nil, bls, Bool.false_eq_true, if_true, if_false, List.length_map, beq_self_eq_true, uns, h0, h3, gtr64', hgt, sub64', e1, i1, load3, c1, eql64, q1]
      exact ⟨_, rfl, by simp only [upd_at, Nat.reduceEqDiff, reduceIte, h0], by simp only [upd_at, Nat.reduceEqDiff, reduceIte, h3]⟩
def TrimAt (l : List Nat) (n : Nat) : Prop := n ≤ l.length ∧ (∀ j, n ≤ j → j < l.length → l[j]? = some 0) ∧ (n = 0 ∨ ∃ x, 0 < x ∧ l[n - 1]? = some x)
theorem trim_body (hb : m[b]? = some (.row ro 3 (cellsN l))) (hl : 0 < l.length) (hl' : l.length ≤ 1000) (hf : 1000 < nf) :
    ∃ n, TrimAt l n ∧ abody E self nf 16 [.slice (some ⟨b, 0, none⟩) l.length l.length] m = some (.slice (some ⟨b, 0, none⟩) n l.length, m) := by
  rw [abody_eqF (by kernel_rfl) Tryd.func16 bodytrm (by kernel_rfl) (Nat.le_of_ble_eq_true rfl)]
  rw [show Tryd.f16.ntmps = 21 from rfl]
  have hloop := aloop_inv (body := acodeN E self nf lptrm_0) (N := l.length)
    (I := fun k T m' => m' = m ∧ (∀ j, l.length - k ≤ j → j < l.length → l[j]? = some 0) ∧ ∃ G, T = lst G 21 ∧ G 0 = .slice (some ⟨b, 0, none⟩) l.length l.length ∧ G 3 = .int .i64 ((l.length - k : Nat) : Int))
    (Q := fun e T m' => e = .exit 0 ∧ m' = m ∧ ∃ n G, TrimAt l n ∧ T = lst G 21 ∧ G 0 = .slice (some ⟨b, 0, none⟩) l.length l.length ∧ G 3 = .int .i64 (n : Nat)) (fun k T m' hk hI => by
      obtain ⟨rfl, hz, G, rfl, g0, g3⟩ := hI
      by_cases hmore : k < l.length ∧ l[l.length - k - 1]? = some 0
      · left
        have h9 : l.length - k = (l.length - (k + 1)) + 1 := by omega
        rw [h9] at g3
        obtain ⟨F', hr, f0, f3⟩ := iterTrm (self := self) (nf := nf) g0 g3 (by omega) (by omega) hb (by rw [show l.length - (k + 1) = l.length - k - 1 by omega]; exact hmore.2)
        refine ⟨_, _, hr, hmore.1, rfl, fun j hj hj2 => ?_, F', rfl, by rw [f0, g0], f3⟩
        by_cases hje : j = l.length - (k + 1)
        · rw [hje, show l.length - (k + 1) = l.length - k - 1 by omega]; exact hmore.2
        · exact hz j (by omega) hj2
      · right
        have hx : l.length - k = 0 ∨ ∃ x, 0 < x ∧ l[l.length - k - 1]? = some x := by
          by_cases hk2 : k < l.length
          · right
            have hlt : l.length - k - 1 < l.length := by omega
            refine ⟨l[l.length - k - 1], ?_, by simp [hlt]⟩
            rcases Nat.eq_zero_or_pos l[l.length - k - 1] with h0 | h0
            · exact absurd ⟨hk2, by rw [List.getElem?_eq_getElem hlt, h0]⟩ hmore
            · exact h0
          · left; omega
        obtain ⟨F', hr, f0, f3⟩ := lastTrm (self := self) (nf := nf) g0 g3 (by omega) (by omega) hb hx
        exact ⟨_, _, _, hr, by simp, rfl, rfl, l.length - k, F', ⟨by omega, hz, hx⟩, rfl, by rw [f0, g0], by rw [f3, g3]⟩)
  obtain ⟨e, T', m', hr, rfl, rfl, n, G, hT, rfl, g0, g3⟩ := hloop l.length 0 nf (lst (upd (upd (upd (upd (init [.slice (some ⟨b, 0, none⟩) l.length l.length]) 2 (.slice none 0 0)) 4 (.slice (some ⟨b, 0, none⟩) l.length l.length)) 5 (.int .i64 ((l.length : Nat) : Int))) 3 (.int .i64 ((l.length : Nat) : Int))) 21) m (by omega) (by omega) ⟨rfl, fun j h1 h2 => by omega, _, rfl, rfl, rfl⟩
  refine ⟨n, hT, ?_⟩
  have sl := slice27 (n := n) hb hl hT.1
  simp only [etrm_0, etrm_1, etrm_2, etrm_3, etrm_4, ltrm_0, ltrm_1, ltrm_2, ltrm_3, ltrm_4, gtrm_2_2, agd_none, gdAt, gdV_bool, gdV_undef, Tryd.f16, List.append_eq, List.cons_append, List.nil_append, apure_call1, apure_call2, apure_call3, bft, btf, acodeN, List.getElem?_toArray, List.getElem?_cons_zero, List.getElem?_cons_succ, aopsN, adrawT, cls, astep, aop, afloat, ev, nth_lst, get_lst, aput, setAt_lst, upd_at, init_zero, init_succ, init_nil, Nat.reduceLT, Nat.reduceEqDiff, reduceIte, abuiltin, alen, Option.map_some, Option.map_none, orElse_some, apure_add, apure_eql, apure_neq, List.map_cons, List.map_nil, List.all_cons, List.all_nil, lit2, lit1, lit0, List.isEmpty_nil, bls, Bool.false_eq_true, if_true, if_false, List.length_map, beq_self_eq_true, uns, und27, hr, g0, g3, sl, finish, ares, aresL, ares1]
theorem quo8 (k : Int) : abin .quo .i64 k .i64 8 = some (.int .i64 (wrapF .i64 (k.tdiv 8))) := by kernel_rfl
theorem rem8 (k : Int) : abin .rem .i64 k .i64 8 = some (.int .i64 (k.tmod 8)) := by kernel_rfl
end
end Go.Am.Seat
namespace Go.Am.Seat
open Go.Proofs Go.Am
theorem pv_und {t : TypeId} {d : TypeDesc} (h : E.P.underlying t = some d) : pv E.P (underlying t) = some d := by
  unfold underlying
  rw [pv_bind (a := E.P) rfl, h]
  rfl
theorem pv_eqInt (d : Nat) (a b : Int) : pv E.P (Op.equalIn (d + 1) 22 (.int .u64 a) (.int .u64 b)) = some (a == b) := by
  unfold Op.equalIn
  rw [pv_bind (pv_und und22)]
  rfl
theorem pv_part (w : Nat → Nat) {j : Nat} (h : j < 8) : pv E.P (part 22 ⟨rowOf w⟩ (j * 1)) = some (.int .u64 ((w j : Nat) : Int)) := by
  have ha : pv E.P (isAgg 22) = some false := by kernel_rfl
  unfold part
  rw [pv_bind ha]
  have hg : (⟨rowOf w⟩ : Array Value)[j * 1]? = some (.int .u64 ((w j : Nat) : Int)) := by
    rw [Nat.mul_one, List.getElem?_toArray, rowOf_get h]
  simp only [Bool.false_eq_true, if_false, hg]
  rfl
theorem pv_size : pv E.P (sizeOf 22) = some 1 := by kernel_rfl
def eqBody (u v : Nat → Nat) (i : Nat) (_s : Option Bool × Unit) : Sem (ForInStep (Option Bool × Unit)) := do
  let a ← part 22 ⟨rowOf u⟩ (i * 1)
  let b ← part 22 ⟨rowOf v⟩ (i * 1)
  let c ← Op.equalIn 9999 22 a b
  if (!c) = true then pure (ForInStep.done (some false, ())) else pure (ForInStep.yield (none, ()))
theorem pv_body (u v : Nat → Nat) {i : Nat} (h : i < 8) (x : Option Bool × Unit) : pv E.P (eqBody u v i x) = some (if ((u i : Nat) : Int) == ((v i : Nat) : Int) then ForInStep.yield (none, ()) else ForInStep.done (some false, ())) := by
  unfold eqBody
  rw [pv_bind (pv_part u h), pv_bind (pv_part v h), pv_bind (pv_eqInt 9998 _ _)]
  cases hq : (((u i : Nat) : Int) == ((v i : Nat) : Int)) <;> rfl
theorem pv_loop (u v : Nat → Nat) : ∀ l : List Nat, (∀ i, i ∈ l → i < 8) → pv E.P (forIn l (none, ()) (eqBody u v)) = some (if l.all (fun j => ((u j : Nat) : Int) == ((v j : Nat) : Int)) then (none, ()) else (some false, ()))
  | [], _ => rfl
  | a :: l, h => by
    rw [List.forIn_cons, pv_bind (pv_body u v (h a (by simp)) _), List.all_cons]
    cases hq : (((u a : Nat) : Int) == ((v a : Nat) : Int)) with
    | true =>
      simp only [if_true, Bool.true_and]
      exact pv_loop u v l fun i hi => h i (by simp [hi])
    | false => rfl
theorem pv_equal (u v : Nat → Nat) : pv E.P (Op.equal 24 (wide u) (wide v)) = some ((List.range 8).all fun j => ((u j : Nat) : Int) == ((v j : Nat) : Int)) := by
  unfold Op.equal Op.maxDepth
  rw [show (10000 : Nat) = 9999 + 1 from rfl]
  unfold Op.equalIn wide
  rw [pv_bind (pv_und und24)]
  simp only
  rw [pv_bind pv_size]
  simp only [Std.Legacy.Range.forIn_eq_forIn_range', Std.Legacy.Range.size, Nat.sub_zero, Nat.add_sub_cancel, Nat.div_one, List.range'_succ, List.range'_zero, Nat.reduceAdd, Nat.reduceSub, Nat.reduceDiv]
  have hl := pv_loop u v [0, 1, 2, 3, 4, 5, 6, 7] (by decide)
  show pv E.P (forIn [0, 1, 2, 3, 4, 5, 6, 7] (none, ()) (eqBody u v) >>= _) = _
  rw [pv_bind hl]
  rw [show List.range 8 = [0, 1, 2, 3, 4, 5, 6, 7] from rfl]
  cases hq : [0, 1, 2, 3, 4, 5, 6, 7].all (fun j => ((u j : Nat) : Int) == ((v j : Nat) : Int)) <;> rfl
noncomputable def eqlVal (P : Program) (s : TypeId) (x y : Operand) (u v : Value) : Option Value :=
  if lit2 u && (lit2 v && true) then
    match pv P ((eqGuard .eql s x y u v >>= fun _ => binOp .eql s u v) >>= fun r => pure (Next.value r)) with
    | some (.value r) => if lit2 r then some r else none
    | _ => none
  else none
theorem apure_eqlV {P : Program} {T : List Value} {d : Option Tmp} {s t ty : TypeId} {x y : Operand} {pos : String} {af : Array Edge} {g : Option (Nat × Bool)} :
    apure P T { dst := d, op := .binOp .eql s x y t, type := ty, pos := pos, after := af, guard := g } = eqlVal P s x y (ev T x) (ev T y) := by
  unfold apure eqlVal
  simp only [Op.operands, List.all_cons, List.all_nil, execOp]
  rfl
theorem eqlVal_str {P : Program} {s : TypeId} {x y : Operand} {a c : ByteArray} : eqlVal P s x y (.string a) (.string c) = some (.bool (a.toList == c.toList)) := rfl
theorem eqlVal_bool {x y : Operand} {p q : Bool} : eqlVal E.P 4 x y (.bool p) (.bool q) = some (.bool (p == q)) := rfl
theorem eqlVal_ptr {P : Program} {s : TypeId} {x y : Operand} {a : Addr} {v : Value} : eqlVal P s x y (.pointer (some a)) v = none := rfl
theorem eqlVal_slice {P : Program} {s : TypeId} {x y : Operand} {a : Addr} {n c : Nat} {v : Value} : eqlVal P s x y (.slice (some a) n c) v = none := rfl
theorem eqlVal_wide {x y : Operand} {u v : Nat → Nat} : eqlVal E.P 24 x y (wide u) (wide v) = some (.bool ((List.range 8).all fun j => ((u j : Nat) : Int) == ((v j : Nat) : Int))) := by
  have hg : pv E.P (eqGuard .eql 24 x y (wide u) (wide v)) = some () := by
    have hq : E.P.eqGuardType E.P.depth 24 = false := by kernel_rfl
    unfold eqGuard wide
    simp only [Bool.not_true, Bool.false_eq_true, if_false]
    rw [pv_bind (a := E.P) rfl, pv_bind (a := E.P) rfl]
    rw [hq]
    rfl
  have hb : pv E.P (binOp .eql 24 (wide u) (wide v)) = some (.bool ((List.range 8).all fun j => ((u j : Nat) : Int) == ((v j : Nat) : Int))) := by
    show pv E.P (Op.equal 24 (wide u) (wide v) >>= fun c => pure (Value.bool c)) = _
    rw [pv_bind (pv_equal u v)]
    rfl
  unfold eqlVal
  rw [wide_lit, wide_lit]
  simp only [Bool.and_self, if_true]
  rw [pv_bind (a := Value.bool ((List.range 8).all fun j => ((u j : Nat) : Int) == ((v j : Nat) : Int))) (by rw [pv_bind hg, hb])]
  rfl
theorem eqlVal_int {P : Program} {s : TypeId} {x y : Operand} {k : IntKind} {a b : Int} : eqlVal P s x y (.int k a) (.int k b) = some (.bool (a == b)) := by
  unfold eqlVal
  simp only [lit2, lit1, lit0, Bool.and_self, if_true, eqGuard, binOp, ne_eq, not_true, if_false, Op.intCmp]
  rfl
theorem allT : ((List.range 8).all fun _ => true) = true := rfl
theorem aop_eqlV {P : Program} {T : List Value} {m : Mem} {d : Option Tmp} {s t ty : TypeId} {x y : Operand} {pos : String} {af : Array Edge} {g : Option (Nat × Bool)} :
    aop P T m { dst := d, op := .binOp .eql s x y t, type := ty, pos := pos, after := af, guard := g } = (eqlVal P s x y (ev T x) (ev T y)).map (·, m) := by
  have hp := apure_eqlV (P := P) (T := T) (d := d) (s := s) (t := t) (ty := ty) (x := x) (y := y) (pos := pos) (af := af) (g := g)
  unfold aop
  simp only
  cases hx : ev T x with
  | int k a =>
    cases hy : ev T y with
    | int k' b =>
      simp only
      by_cases hk : k = k'
      · subst hk
        rw [eqlVal_int]
        have : abin .eql k a k b = some (.bool (a == b)) := by unfold abin; simp only [if_true]
        rw [this]
        rfl
      · have : abin .eql k a k' b = none := by unfold abin; simp only [hk, if_false]
        rw [this]
        simp only
        rw [hp, hx, hy]
    | _ => simp only; rw [hp, hx, hy]
  | _ => simp only; rw [hp, hx]
end Go.Am.Seat
