/-
  Texts of my own, put together: M2, M3, M4.
-/
import Derived.Test.YtgkolikpojpffaaDoorGrLimbLaws10
set_option linter.unusedSimpArgs false
set_option linter.unusedVariables false
set_option maxRecDepth 100000
namespace Go.Am.Seat
open Go.Proofs Go.Am
section
variable {self : Self} {nf : Nat} {M : Mem} {F : Nat → Value} {p q : Nat} {w out : Nat → Nat} {far near i : Nat} {rp : Bool}
theorem iterDn (h2 : F 2 = .pointer (some ⟨p, 0, none⟩)) (h7 : F 7 = .pointer (some ⟨q, 0, none⟩)) (h5 : F 5 = .int .i64 (far : Nat)) (h6 : F 6 = .int .i64 (near : Nat)) (h8 : F 8 = .int .i64 (i : Nat))
    (hp : M[p]? = some (.row rp 24 (rowOf w))) (hq : M[q]? = some (.row false 24 (rowOf out))) (hpq : p ≠ q) (hfi : far ≤ i) (hi : i < 8) (hn : near < 64) (hw : ∀ j, w j < 18446744073709551616) :
    ∃ F', acodeN E self nf lpdn_0 (lst F 45) M = some (.normal, lst F' 45, M.set q (.row false 24 (rowOf (fun j => if j = i - far then dnW w far near (i - far) else out j)))) ∧ F' 2 = F 2 ∧ F' 4 = F 4 ∧ F' 5 = F 5 ∧ F' 6 = F 6 ∧ F' 7 = F 7 ∧ F' 8 = .int .i64 ((i + 1 : Nat) : Int) := by
  have hlt : decide (((i : Nat) : Int) < 8) = true := decide_eq_true (by omega)
  have hqm := lt_of_at hq
  have e1 := wsub hfi (by omega)
  have e2 := w1 (i := i) (by omega)
  have e3 := w64sub (a := near) (by omega)
  have c1 : cellAt M p i = some (.int .u64 ((w i : Nat) : Int)) := by rw [cellAt_row hp, rowOf_get (by omega)]
  have i1 := ix24 (p := p) (k := i) hi
  have i2 := ix24 (p := q) (k := i - far) (by omega)
  have s1 := shrN (x := w i) (n := near) (by omega)
  have t1 := store22 (x := w i / 2 ^ near) hq (show i - far < 8 by omega)
  have hfa : i - far + far = i := by omega
  by_cases hg : i + 1 < 8
  · have hgt : decide (((i + 1 : Nat) : Int) < 8) = true := decide_eq_true (by omega)
    generalize hM1 : M.set q (.row false 24 (rowOf (fun j => if j = i - far then w i / 2 ^ near else out j))) = M1 at t1
    have hq1 : M1[q]? = some (.row false 24 (rowOf (fun j => if j = i - far then w i / 2 ^ near else out j))) := by rw [← hM1, List.getElem?_set_self hqm]
    have hp1 : M1[p]? = some (.row rp 24 (rowOf w)) := by rw [← hM1, List.getElem?_set_ne (fun e => hpq e.symm)]; exact hp
    have hq1s : (M1.map sealed)[q]? = some (.row true 24 (rowOf (fun j => if j = i - far then w i / 2 ^ near else out j))) := by rw [List.getElem?_map, hq1]; rfl
    have hp1s : (M1.map sealed)[p]? = some (.row true 24 (rowOf w)) := by rw [List.getElem?_map, hp1]; rfl
    have c2 : cellAt (M1.map sealed) q (i - far) = some (.int .u64 ((w i / 2 ^ near : Nat) : Int)) := by rw [cellAt_row hq1s, rowOf_get (by omega)]; simp
    have c3 : cellAt (M1.map sealed) p (i + 1) = some (.int .u64 ((w (i + 1) : Nat) : Int)) := by rw [cellAt_row hp1s, rowOf_get (by omega)]
    have i3 := ix24 (p := p) (k := i + 1) (by omega)
    have s2 := shlN (x := w (i + 1)) (n := 64 - near) (by omega)
    have s3 := orN (x := w i / 2 ^ near) (y := w (i + 1) * 2 ^ (64 - near) % 18446744073709551616) (div_lt64 (hw _)) (Nat.mod_lt _ (by omega))
    have t2 := store22 (x := (w i / 2 ^ near) ||| (w (i + 1) * 2 ^ (64 - near) % 18446744073709551616)) hq1 (show i - far < 8 by omega)
    have hfin : M1.set q (.row false 24 (rowOf fun j => if j = i - far then w i / 2 ^ near ||| w (i + 1) * 2 ^ (64 - near) % 18446744073709551616 else if j = i - far then w i / 2 ^ near else out j)) = M.set q (.row false 24 (rowOf (fun j => if j = i - far then dnW w far near (i - far) else out j))) := by
      rw [← hM1, set_twice]
      have this : (rowOf fun j => if j = i - far then w i / 2 ^ near ||| w (i + 1) * 2 ^ (64 - near) % 18446744073709551616 else if j = i - far then w i / 2 ^ near else out j) = rowOf (fun j => if j = i - far then dnW w far near (i - far) else out j) := by
        apply rowOf_ext
        intro j _
        by_cases hj : j = i - far
        · simp only [hj, if_true]
          unfold dnW
          rw [hfa, if_pos hi, if_pos hg]
        · simp only [hj, if_false]
      rw [this]
    simp only [lpdn_0_eq, ↓ddn_8, ↓sdn_8, edn_0, edn_1, edn_2, edn_3, edn_4, edn_5, edn_6, edn_7, edn_8, edn_9, ldn_0, ldn_1, ldn_2, ldn_3, ldn_4, ldn_5, ldn_6, ldn_7, ldn_8, ldn_9, agd_none, gdAt, gdV_bool, gdV_undef, Tryd.f69, List.append_eq, List.cons_append, List.nil_append, apure_call1, apure_call2, apure_call3, bft, btf, acodeN, List.getElem?_toArray, List.getElem?_cons_zero, List.getElem?_cons_succ, aopsN, adrawT, cls, astep, aop, afloat, ev, nth_lst, get_lst, aput, setAt_lst, upd_at, init_zero, init_succ, init_nil, Nat.reduceLT, Nat.reduceEqDiff, reduceIte, abuiltin, alen, Option.map_some, Option.map_none, orElse_some, apure_add, apure_eql, apure_neq, List.map_cons, List.map_nil, List.all_cons, List.all_nil, lit2, lit1, lit0, List.isEmpty_nil, bls, Bool.false_eq_true, if_true, if_false, List.length_map, beq_self_eq_true, uns, h2, h5, h6, h7, h8, lss64, hlt, sub64', e1, i1, load22, c1, s1, i2, t1, hgt, c2, i3, c3, e3, s2, s3, t2, add64', e2, hfin]
    exact ⟨_, rfl, by simp only [upd_at, Nat.reduceEqDiff, reduceIte, h2, h5, h6, h7], by simp only [upd_at, Nat.reduceEqDiff, reduceIte, h2, h5, h6, h7], by simp only [upd_at, Nat.reduceEqDiff, reduceIte, h2, h5, h6, h7], by simp only [upd_at, Nat.reduceEqDiff, reduceIte, h2, h5, h6, h7], by simp only [upd_at, Nat.reduceEqDiff, reduceIte, h2, h5, h6, h7], by simp only [upd_at, Nat.reduceEqDiff, reduceIte, h2, h5, h6, h7]⟩
  · have hgt : decide (((i + 1 : Nat) : Int) < 8) = false := decide_eq_false (by omega)
    have hfin : M.set q (.row false 24 (rowOf fun j => if j = i - far then w i / 2 ^ near else out j)) = M.set q (.row false 24 (rowOf (fun j => if j = i - far then dnW w far near (i - far) else out j))) := by
      have this : (rowOf fun j => if j = i - far then w i / 2 ^ near else out j) = rowOf (fun j => if j = i - far then dnW w far near (i - far) else out j) := by
        apply rowOf_ext
        intro j _
        by_cases hj : j = i - far
        · simp only [hj, if_true]
          unfold dnW
          rw [hfa, if_pos hi, if_neg hg]
        · simp only [hj, if_false]
      rw [this]
    simp only [lpdn_0_eq, ↓ddn_8, ↓sdn_8, edn_0, edn_1, edn_2, edn_3, edn_4, edn_5, edn_6, edn_7, edn_8, edn_9, ldn_0, ldn_1, ldn_2, ldn_3, ldn_4, ldn_5, ldn_6, ldn_7, ldn_8, ldn_9, agd_none, gdAt, gdV_bool, gdV_undef, Tryd.f69, List.append_eq, List.cons_append, List.nil_append, apure_call1, apure_call2, apure_call3, bft, btf, acodeN, List.getElem?_toArray, List.getElem?_cons_zero, List.getElem?_cons_succ, aopsN, adrawT, cls, astep, aop, afloat, ev, nth_lst, get_lst, aput, setAt_lst, upd_at, init_zero, init_succ, init_nil, Nat.reduceLT, Nat.reduceEqDiff, reduceIte, abuiltin, alen, Option.map_some, Option.map_none, orElse_some, apure_add, apure_eql, apure_neq, List.map_cons, List.map_nil, List.all_cons, List.all_nil, lit2, lit1, lit0, List.isEmpty_nil, bls, Bool.false_eq_true, if_true, if_false, List.length_map, beq_self_eq_true, uns, h2, h5, h6, h7, h8, lss64, hlt, sub64', e1, i1, load22, c1, s1, i2, t1, hgt, add64', e2, hfin]
    exact ⟨_, rfl, by simp only [upd_at, Nat.reduceEqDiff, reduceIte, h2, h5, h6, h7], by simp only [upd_at, Nat.reduceEqDiff, reduceIte, h2, h5, h6, h7], by simp only [upd_at, Nat.reduceEqDiff, reduceIte, h2, h5, h6, h7], by simp only [upd_at, Nat.reduceEqDiff, reduceIte, h2, h5, h6, h7], by simp only [upd_at, Nat.reduceEqDiff, reduceIte, h2, h5, h6, h7], by simp only [upd_at, Nat.reduceEqDiff, reduceIte, h2, h5, h6, h7]⟩
theorem lastDn (h8 : F 8 = .int .i64 (i : Nat)) (hi : 8 ≤ i) : ∃ F', acodeN E self nf lpdn_0 (lst F 45) M = some (.exit 0, lst F' 45, M) ∧ F' 4 = F 4 ∧ F' 7 = F 7 := by
  have hlt : decide (((i : Nat) : Int) < 8) = false := decide_eq_false (by omega)
  simp only [lpdn_0_eq, ↓ddn_8, ↓sdn_8, edn_0, edn_1, edn_2, edn_3, edn_4, edn_5, edn_6, edn_7, edn_8, edn_9, ldn_0, ldn_1, ldn_2, ldn_3, ldn_4, ldn_5, ldn_6, ldn_7, ldn_8, ldn_9, agd_none, gdAt, gdV_bool, gdV_undef, Tryd.f69, List.append_eq, List.cons_append, List.nil_append, apure_call1, apure_call2, apure_call3, bft, btf, acodeN, List.getElem?_toArray, List.getElem?_cons_zero, List.getElem?_cons_succ, aopsN, adrawT, cls, astep, aop, afloat, ev, nth_lst, get_lst, aput, setAt_lst, upd_at, init_zero, init_succ, init_nil, Nat.reduceLT, Nat.reduceEqDiff, reduceIte, abuiltin, alen, Option.map_some, Option.map_none, orElse_some, apure_add, apure_eql, apure_neq, List.map_cons, List.map_nil, List.all_cons, List.all_nil, lit2, lit1, lit0, List.isEmpty_nil, bls, Bool.false_eq_true, if_true, if_false, List.length_map, beq_self_eq_true, uns, h8, lss64, hlt]
  exact ⟨_, rfl, by simp only [upd_at, Nat.reduceEqDiff, reduceIte], by simp only [upd_at, Nat.reduceEqDiff, reduceIte]⟩
theorem dn_body {m : Mem} {n : Nat} (hn : n < 512) (hw : ∀ j, w j < 18446744073709551616) (hf : 10 < nf) :
    ∃ m', abody E self nf 69 [wide w, .int .i64 (n : Nat)] m = some (wide (dnW w (n / 64) (n % 64)), m') := by
  rw [abody_eqF (by kernel_rfl) Tryd.func69 bodydn (by kernel_rfl) (Nat.le_of_ble_eq_true rfl)]
  rw [show Tryd.f69.ntmps = 45 from rfl]
  have e1 := wq64 (n := n) (by omega)
  have e2 := wrm64 (n := n)
  have b1 := box24 w m
  have b2 := alloc24 (m ++ [.row false 24 (rowOf w)])
  have b3 := alloc24 (m ++ [Blk.row false 24 (rowOf w)] ++ [.row false 24 (rowOf fun _ => 0)])
  generalize hM : m ++ [Blk.row false 24 (rowOf w)] ++ [.row false 24 (rowOf fun _ => 0)] ++ [.row false 24 (rowOf fun _ => 0)] = M at b3
  have hp : M[m.length]? = some (.row false 24 (rowOf w)) := by
    rw [← hM, List.getElem?_append_left (by simp), List.getElem?_append_left (by simp)]; simp
  have hr : M[m.length + 1]? = some (.row false 24 (rowOf fun _ => 0)) := by
    rw [← hM, List.getElem?_append_left (by simp), List.getElem?_append_right (by simp)]; simp
  have hq : M[m.length + 2]? = some (.row false 24 (rowOf fun _ => 0)) := by
    rw [← hM, List.getElem?_append_right (by simp)]; simp
  have l1 : (m ++ [Blk.row false 24 (rowOf w)]).length = m.length + 1 := by simp
  have l2 : (m ++ [Blk.row false 24 (rowOf w)] ++ [Blk.row false 24 (rowOf fun _ => 0)]).length = m.length + 2 := by simp
  rw [l1] at b2
  rw [l2] at b3
  have hloop := aloop_inv (body := acodeN E self nf lpdn_0) (N := 8 - n / 64)
    (I := fun k T M' => M'[m.length]? = some (.row false 24 (rowOf w)) ∧ M'[m.length + 1]? = some (.row false 24 (rowOf fun _ => 0)) ∧ M'[m.length + 2]? = some (.row false 24 (rowOf fun j => if j < k then dnW w (n / 64) (n % 64) j else 0)) ∧
      ∃ F, T = lst F 45 ∧ F 2 = .pointer (some ⟨m.length, 0, none⟩) ∧ F 4 = .pointer (some ⟨m.length + 1, 0, none⟩) ∧ F 5 = .int .i64 ((n / 64 : Nat) : Int) ∧ F 6 = .int .i64 ((n % 64 : Nat) : Int) ∧ F 7 = .pointer (some ⟨m.length + 2, 0, none⟩) ∧ F 8 = .int .i64 ((n / 64 + k : Nat) : Int))
    (Q := fun e T M' => e = .exit 0 ∧ M'[m.length + 1]? = some (.row false 24 (rowOf fun _ => 0)) ∧ M'[m.length + 2]? = some (.row false 24 (rowOf (dnW w (n / 64) (n % 64)))) ∧ ∃ F, T = lst F 45 ∧ F 4 = .pointer (some ⟨m.length + 1, 0, none⟩) ∧ F 7 = .pointer (some ⟨m.length + 2, 0, none⟩)) (fun k T M' hk hI => by
      obtain ⟨gp, gr, gq, F, rfl, g2, g4, g5, g6, g7, g8⟩ := hI
      by_cases hlt : n / 64 + k < 8
      · left
        obtain ⟨F', hr', f2, f4, f5, f6, f7, f8⟩ := iterDn (self := self) (nf := nf) g2 g7 g5 g6 g8 gp gq (by omega) (by omega) hlt (by omega) hw
        refine ⟨_, _, hr', by omega, ?_, ?_, ?_, F', rfl, by rw [f2, g2], by rw [f4, g4], by rw [f5, g5], by rw [f6, g6], by rw [f7, g7], by rw [f8]; rfl⟩
        · rw [List.getElem?_set_ne (by omega)]; exact gp
        · rw [List.getElem?_set_ne (by omega)]; exact gr
        · rw [List.getElem?_set_self (lt_of_at gq)]
          congr 2
          apply rowOf_ext
          intro j _
          have hk9 : n / 64 + k - n / 64 = k := by omega
          rw [hk9]
          by_cases hj : j = k
          · rw [if_pos hj, if_pos (by omega), hj]
          · rw [if_neg hj]
            by_cases hj2 : j < k
            · rw [if_pos hj2, if_pos (by omega)]
            · rw [if_neg hj2, if_neg (by omega)]
      · right
        obtain ⟨F', hr', f4, f7⟩ := lastDn (self := self) (nf := nf) (M := M') g8 (by omega)
        refine ⟨_, _, _, hr', by simp, rfl, gr, ?_, F', rfl, by rw [f4, g4], by rw [f7, g7]⟩
        rw [gq]
        congr 2
        apply rowOf_ext
        intro j hj
        by_cases hj2 : j < k
        · rw [if_pos hj2]
        · rw [if_neg hj2]
          unfold dnW
          rw [if_neg (by omega)])
  obtain ⟨e, T', M2, hl, rfl, hr2, hq2, F', rfl, f4, f7⟩ := hloop (8 - n / 64) 0 nf (lst (upd (upd (upd (upd (upd (upd (upd (upd (upd (upd (upd (init [wide w, .int .i64 (n : Nat)]) 2 (.pointer (some ⟨m.length, 0, none⟩))) 4 (.pointer (some ⟨m.length + 1, 0, none⟩))) 9 (.int .i64 (n : Nat))) 10 (.int .i64 ((n / 64 : Nat) : Int))) 11 (.int .i64 (n : Nat))) 12 (.int .i64 ((n % 64 : Nat) : Int))) 5 (.int .i64 ((n / 64 : Nat) : Int))) 6 (.int .i64 ((n % 64 : Nat) : Int))) 7 (.pointer (some ⟨m.length + 2, 0, none⟩))) 13 (.int .i64 ((n / 64 : Nat) : Int))) 8 (.int .i64 ((n / 64 : Nat) : Int))) 45) M (by omega) (by omega)
    ⟨hp, hr, by
      rw [hq]
      exact congrArg (fun l => some (Blk.row false 24 l)) (rowOf_ext fun j _ => by rw [if_neg (by omega)]), _, rfl, rfl, rfl, rfl, rfl, rfl, rfl⟩
  have ld := load24 hq2
  have st := store24 (w := dnW w (n / 64) (n % 64)) hr2 (rowOf_length _)
  have ld2 : aload E.P 24 (.pointer (some ⟨m.length + 1, 0, none⟩)) (M2.set (m.length + 1) (.row false 24 (rowOf (dnW w (n / 64) (n % 64))))) = some (wide (dnW w (n / 64) (n % 64))) := load24 (by rw [List.getElem?_set_self (lt_of_at hr2)])
  simp only [↓ddn_8, ↓sdn_8, edn_0, edn_1, edn_2, edn_3, edn_4, edn_5, edn_6, edn_7, edn_8, edn_9, ldn_0, ldn_1, ldn_2, ldn_3, ldn_4, ldn_5, ldn_6, ldn_7, ldn_8, ldn_9, agd_none, gdAt, gdV_bool, gdV_undef, Tryd.f69, List.append_eq, List.cons_append, List.nil_append, apure_call1, apure_call2, apure_call3, bft, btf, acodeN, List.getElem?_toArray, List.getElem?_cons_zero, List.getElem?_cons_succ, aopsN, adrawT, cls, astep, aop, afloat, ev, nth_lst, get_lst, aput, setAt_lst, upd_at, init_zero, init_succ, init_nil, Nat.reduceLT, Nat.reduceEqDiff, reduceIte, abuiltin, alen, Option.map_some, Option.map_none, orElse_some, apure_add, apure_eql, apure_neq, List.map_cons, List.map_nil, List.all_cons, List.all_nil, lit2, lit1, lit0, List.isEmpty_nil, bls, Bool.false_eq_true, if_true, if_false, List.length_map, beq_self_eq_true, uns, b1, b2, b3, quo64, rem64, e1, e2, hl, f4, f7, ld, st, ld2, finish, ares, aresL, ares1]
  exact ⟨_, rfl⟩
noncomputable def apU (P : Program) (u : UnOp) (t ty : TypeId) (v : Value) : Option Value := apure P [v] { dst := none, op := .unOp u t (.tmp 0), type := ty, pos := "", after := #[], guard := none }
theorem apure_un {P : Program} {T : List Value} {u : UnOp} {t ty : TypeId} {k : Nat} {pos : String} {af : Array Edge} {g : Option (Nat × Bool)} {d : Option Tmp} : apure P T { dst := d, op := .unOp u t (.tmp k), type := ty, pos := pos, after := af, guard := g } = apU P u t ty (nth T k) := by
  unfold apU apure
  simp only [Op.operands, execOp, ev, nth_zero, List.all_cons, List.all_nil]
  rfl
theorem upW_lt (hw : ∀ j, w j < 18446744073709551616) (far near a : Nat) : upW w far near a < 18446744073709551616 := by
  unfold upW
  split
  · omega
  · split
    · exact Nat.or_lt_two_pow (n := 64) (Nat.mod_lt _ (by omega)) (div_lt64 (hw _))
    · exact Nat.mod_lt _ (by omega)
theorem dnW_lt (hw : ∀ j, w j < 18446744073709551616) (far near a : Nat) : dnW w far near a < 18446744073709551616 := by
  unfold dnW
  split
  · split
    · exact Nat.or_lt_two_pow (n := 64) (div_lt64 (hw _)) (Nat.mod_lt _ (by omega))
    · exact div_lt64 (hw _)
  · omega
end
end Go.Am.Seat
namespace Go.Am.Seat
open Go.Proofs Go.Am
-- ntmps 24
-- ntmps 20
-- ntmps 21
-- ntmps 31
section
variable {self : Self} {nf : Nat} {m : Mem} {F : Nat → Value} {w : Nat → Nat} {j k x : Nat} {v : Value} {l : List Value}
end
end Go.Am.Seat
namespace Go.Am.Seat
open Go.Proofs Go.Am
theorem und27 : E.P.underlying 27 = some (.slice 3) := Tryd.underlying27
theorem info3 : ∃ i, E.P.info? 3 = some i ∧ i.size = 1 := by
  have h : (E.P.info? 3).map (·.size) = some 1 := by kernel_rfl
  exact Option.map_eq_some_iff.1 h
theorem ix27 {b L c j : Nat} (h : j < L) : aindexAddr E.P 27 (.slice (some ⟨b, 0, none⟩) L c) (.int .i64 (j : Nat)) = some (.pointer (some ⟨b, j, none⟩)) := by
  obtain ⟨i, h1, h2⟩ := info3
  unfold aindexAddr
  simp only [und27, h1, h2]
  rw [if_pos (by omega)]
  simp
def cellsN (l : List Nat) : List Value := l.map fun x => .int .i64 ((x : Nat) : Int)
theorem cellsN_get {l : List Nat} {j x : Nat} (h : l[j]? = some x) : (cellsN l)[j]? = some (.int .i64 ((x : Nat) : Int)) := by
  unfold cellsN
  rw [List.getElem?_map, h]
  rfl
section
variable {self : Self} {nf : Nat} {m : Mem} {F : Nat → Value} {s : ByteArray} {b L n i : Nat} {l : List Nat} {ro : Bool}
end
end Go.Am.Seat
