/-
  Hex on the abstract machine (own work).
-/
import Derived.Test.YtmopnogcdjehmaaDoorAmO4
set_option linter.unusedSimpArgs false
set_option linter.unusedVariables false
namespace Go.Am.Seat
open Go.Proofs Go.Am
set_option maxRecDepth 100000

noncomputable def rbStr_0 : Array Oper := match Tryd.f69.body with
  | some (.seq (.region _ o _) _) => o
  | _ => #[]
noncomputable def rbStr_1 : Array Oper := match Tryd.f69.body with
  | some (.seq _ (.seq (.region _ o _) _)) => o
  | _ => #[]
theorem dbStr_1 {self : Self} {B : Nat} {T : List Value} {m : Mem} {lb : List (Nat × Nat)} {ls : Bool} : adrawN E self rbStr_1 B rbStr_1.toList 0 T m lb ls = adrawT E self rbStr_1 B rbStr_1.toList [(false, false), (false, false), (false, false), (false, false), (false, false), (false, false), (false, false), (false, false), (false, false), (false, false), (false, false), (false, false)] 0 T m lb ls := adraw_tab (by kernel_rfl)
theorem bodybStr : Tryd.f69.body = some (.seq (.region 0 rbStr_0 false) (.seq (.region 1 rbStr_1 true) .ret)) := rfl
-- ntmps 14

section
variable {self : Self} {nf q n c : Nat} {m m1 m2 : Mem} {l : List Int}

theorem Grow_body (hcc : ainv E self 91 [.pointer (some ⟨q, 0, none⟩)] m = some (.tuple ⟨[]⟩, m1)) (hq : m1[q]? = some (.row false 91 [.pointer (some ⟨q, 0, none⟩), .slice none 0 0]))
    (hn : 0 < n) (hg : ainv E self 92 [.pointer (some ⟨q, 0, none⟩), .int .i64 (n : Nat)] m1 = some (.tuple ⟨[]⟩, m2)) :
    abody E self nf 67 [.pointer (some ⟨q, 0, none⟩), .int .i64 (n : Nat)] m = some (.tuple ⟨[]⟩, m2) := by
  rw [abody_eqF (by kernel_rfl) Tryd.func67 bodybGrow (by kernel_rfl) (Nat.le_of_ble_eq_true rfl)]
  rw [show Tryd.f67.ntmps = 25 from rfl]
  have hqs : (m1.map sealed)[q]? = some (.row true 91 [.pointer (some ⟨q, 0, none⟩), .slice none 0 0]) := by
    rw [List.getElem?_map, hq]
    rfl
  have hc : cellAt (m1.map sealed) q 1 = some (.slice none 0 0) := cellAt_row hqs 1
  have h1 : decide (((n : Nat) : Int) < 0) = false := decide_eq_false (by omega)
  have h2 : decide ((0 : Int) < ((n : Nat) : Int)) = true := decide_eq_true (by omega)
  have hdbGrow_3 := @dbGrow_3
  simp only [rbGrow_3, Tryd.f67] at hdbGrow_3
  simp only [hdbGrow_3, rbGrow_0, rbGrow_1, rbGrow_2, rbGrow_3, rbGrow_4, Tryd.f67, List.append_eq, List.cons_append, List.nil_append, apure_call1, apure_call2, apure_call3, bft, btf, acodeN, List.getElem?_toArray, List.getElem?_cons_zero, List.getElem?_cons_succ, aopsN, adrawT, agd, cls, astep, aop, afloat, ev, nth_lst, get_lst, aput, setAt_lst, upd_at, init_zero, init_succ, init_nil, Nat.reduceLT, Nat.reduceEqDiff, reduceIte, abuiltin, alen, Option.map_some, Option.map_none, orElse_some, apure_add, apure_eql, apure_neq, List.map_cons, List.map_nil, List.all_cons, List.all_nil, lit2, lit1, lit0, List.isEmpty_nil, Bool.and_self, Bool.and_true, Bool.true_and, Bool.false_and, Bool.and_false, Bool.not_true, Bool.not_false, Bool.or_true, Bool.true_or, Bool.false_or, Bool.or_false, Bool.false_eq_true, if_true, if_false, List.length_map, beq_self_eq_true, und3, und4, und5, und9, callcc, callgrow, hcc, hg, lss64, h1, h2, fa86_1, load35, hc, cap_nil, len_nil, und35, sub64', sub00, Nat.zero_add, finish, ares, aresL, ares1]

theorem usStringC {b : Nat} {cs : List Value} (hb : m[b]? = some (.row false 5 cs)) (htk : cs.take l.length = l.map (.int .u8)) (hlc : l.length ≤ cs.length) (h0 : l ≠ []) (hl : l.length ≤ 10000000) :
    ausString E.P 118 (.pointer (some ⟨b, 0, none⟩)) (.int .i64 (l.length : Nat)) m = some (.string (bytesOfL (l.map fun n => UInt8.ofNat n.toNat)), m.set b (.row true 5 cs)) := by
  have hlen : 0 < l.length := List.length_pos_iff.2 h0
  unfold ausString
  simp only [hb, show E.P.underlying 118 = some (.pointer 5) from Tryd.underlying118]
  rw [if_neg (by omega), if_pos (by omega)]
  have hc : E.P.cellsOf 5 = 1 := by kernel_rfl
  have hlies : liesAt E.P E.P.depth 5 (cs.length / E.P.cellsOf 5) 0 5 ((l.length : Nat) : Int).toNat = true := Lib.liesAt_bytes hc _ _ (by rw [hc, Nat.div_one, Int.toNat_natCast]; omega)
  rw [if_pos ⟨hlies, by omega⟩]
  have ht : (cs.drop 0).take ((l.length : Nat) : Int).toNat = l.map (.int .u8) := by
    rw [List.drop_zero, Int.toNat_natCast, htk]
  rw [ht, bytesOf_map]
  rfl

theorem String_body (hb : BufC m q l c) (hne : l ≠ []) (hl : l.length ≤ 10000000) :
    ∃ m', abody E self nf 69 [.pointer (some ⟨q, 0, none⟩)] m = some (.string (bytesOfL (l.map fun n => UInt8.ofNat n.toNat)), m') := by
  rw [abody_eqF (by kernel_rfl) Tryd.func69 bodybStr (by kernel_rfl) (Nat.le_of_ble_eq_true rfl)]
  rw [show Tryd.f69.ntmps = 14 from rfl]
  obtain ⟨b, cs, hqb, hq, hbb, hc, htk, hlc⟩ := hb
  have hqs : (m.map sealed)[q]? = some (.row true 91 [.pointer (some ⟨q, 0, none⟩), .slice (some ⟨b, 0, none⟩) l.length c]) := by
    rw [List.getElem?_map, hq]
    rfl
  have hcell : cellAt (m.map sealed) q 1 = some (.slice (some ⟨b, 0, none⟩) l.length c) := cellAt_row hqs 1
  have hc0 : ¬ c = 0 := fun h => hne (List.eq_nil_of_length_eq_zero (by omega))
  have hus := usStringC hbb htk (by omega) hne hl
  have hdbStr_1 := @dbStr_1
  simp only [rbStr_1, Tryd.f69] at hdbStr_1
  simp only [hdbStr_1, rbStr_0, rbStr_1, Tryd.f69, List.append_eq, List.cons_append, List.nil_append, apure_call1, apure_call2, apure_call3, bft, btf, acodeN, List.getElem?_toArray, List.getElem?_cons_zero, List.getElem?_cons_succ, aopsN, adrawT, agd, cls, astep, aop, afloat, ev, nth_lst, get_lst, aput, setAt_lst, upd_at, init_zero, init_succ, init_nil, Nat.reduceLT, Nat.reduceEqDiff, reduceIte, abuiltin, alen, Option.map_some, Option.map_none, orElse_some, apure_add, apure_eql, apure_neq, List.map_cons, List.map_nil, List.all_cons, List.all_nil, lit2, lit1, lit0, List.isEmpty_nil, Bool.and_self, Bool.and_true, Bool.true_and, Bool.false_and, Bool.and_false, Bool.not_true, Bool.not_false, Bool.or_true, Bool.true_or, Bool.false_or, Bool.or_false, Bool.false_eq_true, if_true, if_false, List.length_map, beq_self_eq_true, und3, und4, und5, und9, fa86_1, load35, hcell, und35, hc0, hus, Nat.zero_add, finish, ares, aresL, ares1]
  exact ⟨_, rfl⟩
end

section
variable {K : List Fact} {n nf : Nat} {m : Mem} {s : ByteArray}

theorem bytesI_hex (b : UInt8) : UInt8.ofNat ((((b).toNat : Nat) : Int)).toNat = b := by simp

theorem hex_body (h1 : hasF K 91 = false) (h2 : hasF K 68 = false) (h3 : hasF K 67 = false) (h4 : hasF K 92 = false) (h5 : hasF K 69 = false)
    (hs : s.data.toList.length ≤ 1000) (h0 : 0 < s.data.toList.length) (hf : 1000 < nf) :
    ∃ m', abody E (runK E mem2 K (n + 3)) nf 40 [.string s] m = some (.string (bytesOfL (hexOf s.data.toList)), m') := by
  rw [abody_eqF (by kernel_rfl) Tryd.func40 bodyhex (by kernel_rfl) (Nat.le_of_ble_eq_true rfl)]
  rw [show Tryd.f40.ntmps = 28 from rfl]
  -- the Builder
  have hq0 : (m ++ [Blk.row false 91 [.pointer none, .slice none 0 0]])[m.length]? = some (.row false 91 [.pointer none, .slice none 0 0]) := by simp
  have hcc := copy_fresh (n := n + 1) h1 hq0
  have hccA : ainv E (runK E mem2 K (n + 2)) 91 [.pointer (some ⟨m.length, 0, none⟩)] (m ++ [Blk.row false 91 [.pointer none, .slice none 0 0]]) = _ := (ainv_wr (by kernel_rfl) rfl).trans hcc
  generalize hm1 : (m ++ [Blk.row false 91 [.pointer none, .slice none 0 0]]).set m.length (.row false 91 [.pointer (some ⟨m.length, 0, none⟩), .slice none 0 0]) = m1 at hccA
  have hq1 : m1[m.length]? = some (.row false 91 [.pointer (some ⟨m.length, 0, none⟩), .slice none 0 0]) := by
    rw [← hm1, List.getElem?_set_self (by simp)]
  obtain ⟨m2, hg, hB⟩ := grow_body (self := runK E mem2 K (n + 1)) (nf := n + 2) (n := 2 * s.data.toList.length) hq1 (by omega) (by omega)
  have hg' : runK E mem2 K (n + 2) 92 [.pointer (some ⟨m.length, 0, none⟩), .int .i64 ((2 * s.data.toList.length : Nat) : Int)] m1 = some (.tuple ⟨[]⟩, m2) := by
    rw [runK_other h4]; exact hg
  have hgA := (ainv_wr (self := runK E mem2 K (n + 2)) (g := 92) (args := [.pointer (some ⟨m.length, 0, none⟩), .int .i64 ((2 * s.data.toList.length : Nat) : Int)]) (m := m1) (by kernel_rfl) rfl).trans hg'
  have hG := Grow_body (nf := n + 3) hccA hq1 (by omega) hgA
  have hG' : runK E mem2 K (n + 3) 67 [.pointer (some ⟨m.length, 0, none⟩), .int .i64 ((2 * s.data.toList.length : Nat) : Int)] (m ++ [Blk.row false 91 [.pointer none, .slice none 0 0]]) = some (.tuple ⟨[]⟩, m2) := by
    rw [runK_other h3]; exact hG
  have hGA := (ainv_wr (self := runK E mem2 K (n + 3)) (g := 67) (args := [.pointer (some ⟨m.length, 0, none⟩), .int .i64 ((2 * s.data.toList.length : Nat) : Int)]) (m := m ++ [Blk.row false 91 [.pointer none, .slice none 0 0]]) (by kernel_rfl) rfl).trans hG'
  have hw2 : wrapF .i64 ((2 : Int) * ((s.data.toList.length : Nat) : Int)) = ((2 * s.data.toList.length : Nat) : Int) := by rw [wrap_i64 (by omega) (by omega)]; omega
  -- the rounds
  have hloop := aloop_inv (body := acodeN E (runK E mem2 K (n + 3)) nf lphex_0) (N := s.data.toList.length)
    (I := fun i T m' => BufC m' m.length ((hexOf (s.data.toList.take i)).map fun b => ((b.toNat : Nat) : Int)) (2 * s.data.toList.length) ∧ ∃ F, T = lst F 28 ∧ F 0 = .string s ∧ F 3 = .pointer (some ⟨m.length, 0, none⟩) ∧ F 10 = .int .i64 ((s.data.toList.length : Nat) : Int) ∧ F 11 = .int .i64 (i : Nat))
    (Q := fun e T m' => e = .exit 0 ∧ BufC m' m.length ((hexOf s.data.toList).map fun b => ((b.toNat : Nat) : Int)) (2 * s.data.toList.length) ∧ ∃ F, T = lst F 28 ∧ F 3 = .pointer (some ⟨m.length, 0, none⟩)) (fun i T m' hi hI => by
      obtain ⟨hBuf, F, rfl, g0, g3, g10, g11⟩ := hI
      by_cases hlt : i < s.data.toList.length
      · left
        have hb : s.data.toList[i]? = some s.data.toList[i] := by simp [hlt]
        have hlen : ((hexOf (s.data.toList.take i)).map fun b => ((b.toNat : Nat) : Int)).length = 2 * i := by
          rw [List.length_map, hexOf_length, List.length_take, Nat.min_eq_left (by omega)]
        obtain ⟨ma, wa, Ba⟩ := writeByteC (n := n + 1) h1 h2 (((hexd (s.data.toList[i].toNat / 16)).toNat : Nat) : Int) hBuf (by omega)
        obtain ⟨mb, wb, Bb⟩ := writeByteC (n := n + 1) h1 h2 (((hexd (s.data.toList[i].toNat % 16)).toNat : Nat) : Int) Ba (by rw [List.length_append, hlen, List.length_singleton]; omega)
        obtain ⟨F', hr, f0, f3, f10, f11⟩ := iterHex (nf := nf) g0 g3 g10 g11 hb (by omega) ((ainv_wr (by kernel_rfl) rfl).trans wa) ((ainv_wr (by kernel_rfl) rfl).trans wb)
        refine ⟨_, _, hr, hlt, ?_, F', rfl, f0, f3, f10, f11⟩
        rw [hexOf_step hb]
        simpa using Bb
      · right
        have hii : i = s.data.toList.length := by omega
        subst hii
        obtain ⟨F', hr, f3⟩ := lastHex (self := runK E mem2 K (n + 3)) (nf := nf) (m := m') (s := s) g10 g11 (by omega)
        refine ⟨_, _, _, hr, by simp, rfl, ?_, F', rfl, by rw [f3, g3]⟩
        rw [List.take_of_length_le (by omega)] at hBuf
        exact hBuf)
  obtain ⟨e, T', m3, hl, rfl, hB3, F', rfl, hF3⟩ := hloop s.data.toList.length 0 nf (lst (upd (upd (upd (upd (upd (upd (upd (upd (upd (init [.string s]) 2 (.string ⟨#[]⟩)) 3 (.pointer (some ⟨m.length, 0, none⟩))) 5 (.string s)) 6 (.int .i64 ((s.data.toList.length : Nat) : Int))) 7 (.int .i64 ((2 * s.data.toList.length : Nat) : Int))) 8 (.tuple ⟨[]⟩)) 9 (.string s)) 10 (.int .i64 ((s.data.toList.length : Nat) : Int))) 11 (.int .i64 0)) 28) m2 (by omega) (by omega)
    ⟨by rw [List.take_zero]; exact hB, _, rfl, rfl, rfl, rfl, rfl⟩
  have hne : ((hexOf s.data.toList).map fun b => ((b.toNat : Nat) : Int)) ≠ [] := by
    intro h
    have := congrArg List.length h
    rw [List.length_map, hexOf_length, List.length_nil] at this
    omega
  obtain ⟨m4, hS⟩ := String_body (self := runK E mem2 K (n + 2)) (nf := n + 3) hB3 hne (by rw [List.length_map, hexOf_length]; omega)
  have hSA := (ainv_wr (self := runK E mem2 K (n + 3)) (g := 69) (args := [.pointer (some ⟨m.length, 0, none⟩)]) (m := m3) (by kernel_rfl) rfl).trans ((runK_other h5).trans hS)
  have hre : (((hexOf s.data.toList).map fun b => ((b.toNat : Nat) : Int)).map fun n => UInt8.ofNat n.toNat) = hexOf s.data.toList := by
    rw [List.map_map]
    have : ((fun n : Int => UInt8.ofNat n.toNat) ∘ fun b : UInt8 => ((b.toNat : Nat) : Int)) = id := by
      funext b
      simp
    rw [this, List.map_id]
  rw [hre] at hSA
  simp only [rhex_0, rhex_1, rhex_2, rhex_3, rhex_4, rhex_5, rhex_6, rhex_7, rhex_8, rhex_9, Tryd.f40, List.append_eq, List.cons_append, List.nil_append, apure_call1, apure_call2, apure_call3, bft, btf, acodeN, List.getElem?_toArray, List.getElem?_cons_zero, List.getElem?_cons_succ, aopsN, adrawT, agd, cls, astep, aop, afloat, ev, nth_lst, get_lst, aput, setAt_lst, upd_at, init_zero, init_succ, init_nil, Nat.reduceLT, Nat.reduceEqDiff, reduceIte, abuiltin, alen, Option.map_some, Option.map_none, orElse_some, apure_add, apure_eql, apure_neq, List.map_cons, List.map_nil, List.all_cons, List.all_nil, lit2, lit1, lit0, List.isEmpty_nil, Bool.and_self, Bool.and_true, Bool.true_and, Bool.false_and, Bool.and_false, Bool.not_true, Bool.not_false, Bool.or_true, Bool.true_or, Bool.false_or, Bool.or_false, Bool.false_eq_true, if_true, if_false, List.length_map, beq_self_eq_true, und3, und4, und5, und9, alloc86, mul64', hw2, callGrow, hGA, hl, hF3, callString, hSA, finish, ares, aresL, ares1]
  exact ⟨_, rfl⟩
end
end Go.Am.Seat
