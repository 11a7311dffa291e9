/-
  Texts of my own, put together: MK, W18, W19, BQ, O5, BR.
-/
import Derived.Test.YtmllcnlfocbdjaaGrWireWrites7
import Derived.Test.YtmllcnlfocbdjaaGrWireWrites18
import Derived.Test.YtmllcnlfocbdjaaGrWireWrites10
import Derived.Test.YtmllcnlfocbdjaaGrWireWrites16
/-
  A region that makes several rows and then calls once: the call by what is known of it (own work; nothing of a dump).
-/
set_option linter.unusedSimpArgs false
set_option linter.unusedVariables false
namespace Go.Am
noncomputable section

theorem amkT_app {E : Env} {self : Self} {ops : Array Oper} {m : Mem} : ∀ (l1 l2 : List Oper) (i : Nat) (T : List Value) (nb : List Blk) (T1 : List Value) (nb1 : List Blk), amkT E self ops m l1 i T nb = some (T1, nb1) →
    amkT E self ops m (l1 ++ l2) i T nb = amkT E self ops m l2 (i + l1.length) T1 nb1
  | [], l2, i, T, nb, T1, nb1, h => by
    rw [amkT] at h
    cases h
    rfl
  | o :: l, l2, i, T, nb, T1, nb1, h => by
    have ih := fun T nb h => amkT_app (E := E) (self := self) (ops := ops) (m := m) l l2 (i + 1) T nb T1 nb1 h
    rw [List.length_cons, show i + (l.length + 1) = i + 1 + l.length by omega]
    rw [amkT] at h
    rw [List.cons_append, amkT]
    cases hg : agd ops T o with
    | none => rw [hg] at h; cases h
    | some b =>
      rw [hg] at h
      cases b with
      | false => exact ih _ _ h
      | true =>
        simp only at h ⊢
        by_cases hok : okOp E.P o.op = true
        · rw [if_pos hok] at h ⊢
          match hc : cls E.P E.wr o with
          | 0 =>
            simp only [hc] at h
            cases hf : afloat E.P T o with
            | none => rw [hf] at h; cases h
            | some v => rw [hf] at h; exact ih _ _ h
          | 1 =>
            simp only [hc] at h
            cases hl : lateB E.P E.wr ops i with
            | true =>
              simp only [hl] at h
              cases hs : astep E self T ((m ++ nb).map sealed) o with
              | none => rw [hs] at h; cases h
              | some r =>
                obtain ⟨v, m1⟩ := r
                simp only [hs] at h
                simp only
                by_cases hm : m1.length = m.length + nb.length
                · rw [if_pos hm] at h ⊢; exact ih _ _ h
                · rw [if_neg hm] at h; cases h
            | false =>
              simp only [hl] at h
              simp only
              by_cases hb : opsBelow m.length T o = true
              · rw [if_pos hb] at h ⊢
                cases hs : astep E self T (m.map sealed) o with
                | none => rw [hs] at h; cases h
                | some r =>
                  obtain ⟨v, m1⟩ := r
                  simp only [hs] at h
                  simp only
                  cases ha : acollAt m.length (m.length + nb.length) v m1 with
                  | none => rw [ha] at h; cases h
                  | some q =>
                    obtain ⟨v', bs⟩ := q
                    rw [ha] at h
                    cases bs with
                    | nil => exact ih _ _ h
                    | cons a b => cases h
              · rw [if_neg hb] at h; cases h
          | k + 2 =>
            simp only [hc] at h
            by_cases hb : opsBelow m.length T o = true
            · rw [if_pos hb] at h ⊢
              cases hs : astep E self T (m.map sealed) o with
              | none => rw [hs] at h; cases h
              | some r =>
                obtain ⟨v, m1⟩ := r
                simp only [hs] at h
                simp only
                cases ha : acollAt m.length (m.length + nb.length) v m1 with
                | none => rw [ha] at h; cases h
                | some q =>
                  obtain ⟨v', bs⟩ := q
                  rw [ha] at h
                  exact (if_pos hb).trans (ih _ _ h)
            · rw [if_neg hb] at h; cases h
        · rw [if_neg hok] at h; cases h

/-- Makers, then a call of which the answer is known, then the rest. -/
theorem amk_call {E : Env} {self : Self} {ops : Array Oper} {m m1 : Mem} {T T1 T3 : List Value} {nb1 nb3 : List Blk} {l1 l3 : List Oper} {oc : Oper} {v : Value} (hl : ops.toList = l1 ++ oc :: l3)
    (h1 : amkT E self ops m l1 0 T [] = some (T1, nb1)) (hg : agd ops T1 oc = some true) (hok : okOp E.P oc.op = true) (hc : cls E.P E.wr oc = 1) (hlate : lateB E.P E.wr ops l1.length = true)
    (hs : astep E self T1 ((m ++ nb1).map sealed) oc = some (v, m1)) (hm1 : m1.length = m.length + nb1.length) (h3 : amkT E self ops m l3 (l1.length + 1) (aput T1 oc.dst v) nb1 = some (T3, nb3)) :
    amk E self ops T m = some (T3, m ++ nb3) := by
  unfold amk
  rw [hl, amkT_app l1 (oc :: l3) 0 T [] T1 nb1 h1, Nat.zero_add, amkT, hg]
  simp only
  rw [if_pos hok, hc]
  simp only [hlate, hs]
  rw [if_pos hm1, h3]
end
end Go.Am

/-
  A message's bytes: a template (own work).
-/
set_option linter.unusedSimpArgs false
set_option linter.unusedVariables false
namespace Go.Am.Seat
open Go.Proofs Go.Am
set_option maxRecDepth 100000

noncomputable def rby0_0 : Array Oper := match Try.f22.body with
  | some (.seq (.region _ o _) _) => o
  | _ => #[]
noncomputable def lby0_0 : List Oper := match Try.f22.body with
  | some (.seq (.region _ o _) _) => o.toList
  | _ => []
theorem eby0_0 : rby0_0.toList = lby0_0 := rfl
noncomputable def rby0_1 : Array Oper := match Try.f22.body with
  | some (.seq _ (.seq (.region _ o _) _)) => o
  | _ => #[]
noncomputable def lby0_1 : List Oper := match Try.f22.body with
  | some (.seq _ (.seq (.region _ o _) _)) => o.toList
  | _ => []
theorem eby0_1 : rby0_1.toList = lby0_1 := rfl
theorem bodyby0 : Try.f22.body = some (.seq (.region 0 rby0_0 false) (.seq (.region 1 rby0_1 true) .ret)) := rfl
-- ntmps 11
noncomputable def by0o : Oper := match lby0_1.drop 4 with
  | o :: _ => o
  | [] => { dst := none, op := .move (.tmp 0), type := 0, pos := "", after := #[], guard := none }
section
variable (s0 : ByteArray)
noncomputable def by0A : List Value := [.agg ⟨[.string s0]⟩] ++ List.replicate (11 - 1) undef
noncomputable def by0B : List Value := match aopsN E (fun _ _ _ => none) rby0_0 rby0_0.toList (by0A s0) mem0 with
  | some (T, _) => T
  | none => []
theorem by00 (self : Self) : aopsN E self rby0_0 rby0_0.toList (by0A s0) mem0 = some (by0B s0, (mem0 ++ [Blk.row false 54 [.string s0]])) := by kernel_rfl
noncomputable def by0C : List Value := match amkT E (runQ E mem0 [] 1).1 rby0_1 (mem0 ++ [Blk.row false 54 [.string s0]]) (lby0_1.take 4) 0 (by0B s0) [] with
  | some (T, _) => T
  | none => []
theorem by01 (n : Nat) : amkT E (runQ E mem0 [] (n + 1)).1 rby0_1 (mem0 ++ [Blk.row false 54 [.string s0]]) (lby0_1.take 4) 0 (by0B s0) [] = some (by0C s0, [Blk.row false 3 ((szs11 0).map (Value.int .i64)), Blk.row false 9 [.string s0]]) := by kernel_rfl
theorem by02 (self : Self) : astep E self (by0C s0) (((mem0 ++ [Blk.row false 54 [.string s0]]) ++ [Blk.row false 3 ((szs11 0).map (Value.int .i64)), Blk.row false 9 [.string s0]]).map sealed) by0o = ainv E self 9 [.slice (some ⟨1 + 1, 0, none⟩) 1 1, .slice (some ⟨1 + 2, 0, none⟩) 1 1] (((mem0 ++ [Blk.row false 54 [.string s0]]) ++ [Blk.row false 3 ((szs11 0).map (Value.int .i64)), Blk.row false 9 [.string s0]]).map sealed) := by kernel_rfl
noncomputable def by0D (x : ByteArray) (y : Int) : List Value := match amkT E (fun _ _ _ => none) rby0_1 (mem0 ++ [Blk.row false 54 [.string s0]]) (lby0_1.drop (4 + 1)) (4 + 1) (aput (by0C s0) by0o.dst (.tuple ⟨[.string x, .int .i64 y]⟩)) [Blk.row false 3 ((szs11 0).map (Value.int .i64)), Blk.row false 9 [.string s0]] with
  | some (T, _) => T
  | none => []
theorem by03 (self : Self) (x : ByteArray) (y : Int) : amkT E self rby0_1 (mem0 ++ [Blk.row false 54 [.string s0]]) (lby0_1.drop (4 + 1)) (4 + 1) (aput (by0C s0) by0o.dst (.tuple ⟨[.string x, .int .i64 y]⟩)) [Blk.row false 3 ((szs11 0).map (Value.int .i64)), Blk.row false 9 [.string s0]] = some (by0D s0 x y, [Blk.row false 3 ((szs11 0).map (Value.int .i64)), Blk.row false 9 [.string s0]]) := by kernel_rfl
theorem by04 (x : ByteArray) (y : Int) (m : Mem) : finish E.P Try.f22 (some (.ret, by0D s0 x y, m)) = some (.tuple ⟨[.string x, .int .i64 y]⟩, m) := by kernel_rfl
theorem by05 : agd rby0_1 (by0C s0) by0o = some true := by kernel_rfl
end
theorem by0_run {n : Nat} (s0 : ByteArray) (cj : CJoin 9 (runQ E mem0 [] (n + 1)).1) (hs : (catL [s0]).size ≤ 100000000) :
    abody E (runQ E mem0 [] (n + 1)).1 (n + 2) 22 [.agg ⟨[.string s0]⟩] mem0 = some (.tuple ⟨[.string (joinS (szs11 0) [s0]), .int .i64 (joinE (szs11 0) [s0] : Nat)]⟩, (mem0 ++ [Blk.row false 54 [.string s0]]) ++ [Blk.row false 3 ((szs11 0).map (Value.int .i64)), Blk.row false 9 [.string s0]]) := by
  rw [abody_eqN (by kernel_rfl) Try.func22 bodyby0 (by kernel_rfl)]
  have hj := cj (((mem0 ++ [Blk.row false 54 [.string s0]]) ++ [Blk.row false 3 ((szs11 0).map (Value.int .i64)), Blk.row false 9 [.string s0]]).map sealed) (szs11 0) [s0] (.slice (some ⟨1 + 1, 0, none⟩) 1 1) (.slice (some ⟨1 + 2, 0, none⟩) 1 1) (RS.row (c := 1) (ro := true) (e := 3) (cs := (szs11 0).map (Value.int .i64)) (by kernel_rfl)) (RS.row (c := 1) (ro := true) (e := 9) (cs := [s0].map Value.string) (by kernel_rfl)) (by decide) (by simp) hs (szs_wf 0 (by decide)) (Nat.le_refl _)
  have hk := amk_call (T := by0B s0) (m := (mem0 ++ [Blk.row false 54 [.string s0]])) (ops := rby0_1) (l1 := lby0_1.take 4) (l3 := lby0_1.drop (4 + 1)) (oc := by0o) (by kernel_rfl) (by01 s0 n) (by05 s0) (by kernel_rfl) (by kernel_rfl) (by kernel_rfl) ((by02 s0 _).trans hj) (by simp) (by03 s0 _ _ _)
  rw [show [Value.agg ⟨[.string s0]⟩] ++ List.replicate (Try.f22.ntmps - [Value.agg ⟨[.string s0]⟩].length) undef = by0A s0 from rfl]
  simp only [acodeN, by00 s0]
  rw [show E.sr 1 rby0_1 = true from by kernel_rfl, show E.mkr 1 rby0_1 = true from by kernel_rfl]
  simp only [hk]
  exact by04 s0 _ _ _
theorem cbytes0 {n : Nat} (cj : CJoin 9 (runQ E mem0 [] (n + 1)).1) : CBytes 22 (szs11 0) (runQ E mem0 [] (n + 2)).1 := by
  intro m ps hT hl hs
  obtain ⟨s0, rfl⟩ := len1 hl
  have hz := cat_small (N := 1000) hs
  have hr := by0_run s0 cj (by simp only [List.length_cons, List.length_nil] at hz; omega)
  rw [show [s0].map Value.string = [.string s0] from rfl, ainv_tabs rfl (by kernel_rfl) hT (runQ_body hr)]
  unfold acoll
  exact if_pos rfl
noncomputable def rby1_0 : Array Oper := match Try.f24.body with
  | some (.seq (.region _ o _) _) => o
  | _ => #[]
noncomputable def lby1_0 : List Oper := match Try.f24.body with
  | some (.seq (.region _ o _) _) => o.toList
  | _ => []
theorem eby1_0 : rby1_0.toList = lby1_0 := rfl
noncomputable def rby1_1 : Array Oper := match Try.f24.body with
  | some (.seq _ (.seq (.region _ o _) _)) => o
  | _ => #[]
noncomputable def lby1_1 : List Oper := match Try.f24.body with
  | some (.seq _ (.seq (.region _ o _) _)) => o.toList
  | _ => []
theorem eby1_1 : rby1_1.toList = lby1_1 := rfl
theorem bodyby1 : Try.f24.body = some (.seq (.region 0 rby1_0 false) (.seq (.region 1 rby1_1 true) .ret)) := rfl
-- ntmps 13
noncomputable def by1o : Oper := match lby1_1.drop 6 with
  | o :: _ => o
  | [] => { dst := none, op := .move (.tmp 0), type := 0, pos := "", after := #[], guard := none }
section
variable (s0 s1 : ByteArray)
noncomputable def by1A : List Value := [.agg ⟨[.string s0, .string s1]⟩] ++ List.replicate (13 - 1) undef
noncomputable def by1B : List Value := match aopsN E (fun _ _ _ => none) rby1_0 rby1_0.toList (by1A s0 s1) mem0 with
  | some (T, _) => T
  | none => []
theorem by10 (self : Self) : aopsN E self rby1_0 rby1_0.toList (by1A s0 s1) mem0 = some (by1B s0 s1, (mem0 ++ [Blk.row false 58 [.string s0, .string s1]])) := by kernel_rfl
noncomputable def by1C : List Value := match amkT E (runQ E mem0 [] 1).1 rby1_1 (mem0 ++ [Blk.row false 58 [.string s0, .string s1]]) (lby1_1.take 6) 0 (by1B s0 s1) [] with
  | some (T, _) => T
  | none => []
theorem by11 (n : Nat) : amkT E (runQ E mem0 [] (n + 1)).1 rby1_1 (mem0 ++ [Blk.row false 58 [.string s0, .string s1]]) (lby1_1.take 6) 0 (by1B s0 s1) [] = some (by1C s0 s1, [Blk.row false 3 ((szs11 1).map (Value.int .i64)), Blk.row false 9 [.string s0, .string s1]]) := by kernel_rfl
theorem by12 (self : Self) : astep E self (by1C s0 s1) (((mem0 ++ [Blk.row false 58 [.string s0, .string s1]]) ++ [Blk.row false 3 ((szs11 1).map (Value.int .i64)), Blk.row false 9 [.string s0, .string s1]]).map sealed) by1o = ainv E self 9 [.slice (some ⟨1 + 1, 0, none⟩) 2 2, .slice (some ⟨1 + 2, 0, none⟩) 2 2] (((mem0 ++ [Blk.row false 58 [.string s0, .string s1]]) ++ [Blk.row false 3 ((szs11 1).map (Value.int .i64)), Blk.row false 9 [.string s0, .string s1]]).map sealed) := by kernel_rfl
noncomputable def by1D (x : ByteArray) (y : Int) : List Value := match amkT E (fun _ _ _ => none) rby1_1 (mem0 ++ [Blk.row false 58 [.string s0, .string s1]]) (lby1_1.drop (6 + 1)) (6 + 1) (aput (by1C s0 s1) by1o.dst (.tuple ⟨[.string x, .int .i64 y]⟩)) [Blk.row false 3 ((szs11 1).map (Value.int .i64)), Blk.row false 9 [.string s0, .string s1]] with
  | some (T, _) => T
  | none => []
theorem by13 (self : Self) (x : ByteArray) (y : Int) : amkT E self rby1_1 (mem0 ++ [Blk.row false 58 [.string s0, .string s1]]) (lby1_1.drop (6 + 1)) (6 + 1) (aput (by1C s0 s1) by1o.dst (.tuple ⟨[.string x, .int .i64 y]⟩)) [Blk.row false 3 ((szs11 1).map (Value.int .i64)), Blk.row false 9 [.string s0, .string s1]] = some (by1D s0 s1 x y, [Blk.row false 3 ((szs11 1).map (Value.int .i64)), Blk.row false 9 [.string s0, .string s1]]) := by kernel_rfl
theorem by14 (x : ByteArray) (y : Int) (m : Mem) : finish E.P Try.f24 (some (.ret, by1D s0 s1 x y, m)) = some (.tuple ⟨[.string x, .int .i64 y]⟩, m) := by kernel_rfl
theorem by15 : agd rby1_1 (by1C s0 s1) by1o = some true := by kernel_rfl
end
theorem by1_run {n : Nat} (s0 s1 : ByteArray) (cj : CJoin 9 (runQ E mem0 [] (n + 1)).1) (hs : (catL [s0, s1]).size ≤ 100000000) :
    abody E (runQ E mem0 [] (n + 1)).1 (n + 2) 24 [.agg ⟨[.string s0, .string s1]⟩] mem0 = some (.tuple ⟨[.string (joinS (szs11 1) [s0, s1]), .int .i64 (joinE (szs11 1) [s0, s1] : Nat)]⟩, (mem0 ++ [Blk.row false 58 [.string s0, .string s1]]) ++ [Blk.row false 3 ((szs11 1).map (Value.int .i64)), Blk.row false 9 [.string s0, .string s1]]) := by
  rw [abody_eqN (by kernel_rfl) Try.func24 bodyby1 (by kernel_rfl)]
  have hj := cj (((mem0 ++ [Blk.row false 58 [.string s0, .string s1]]) ++ [Blk.row false 3 ((szs11 1).map (Value.int .i64)), Blk.row false 9 [.string s0, .string s1]]).map sealed) (szs11 1) [s0, s1] (.slice (some ⟨1 + 1, 0, none⟩) 2 2) (.slice (some ⟨1 + 2, 0, none⟩) 2 2) (RS.row (c := 2) (ro := true) (e := 3) (cs := (szs11 1).map (Value.int .i64)) (by kernel_rfl)) (RS.row (c := 2) (ro := true) (e := 9) (cs := [s0, s1].map Value.string) (by kernel_rfl)) (by decide) (by simp) hs (szs_wf 1 (by decide)) (Nat.le_refl _)
  have hk := amk_call (T := by1B s0 s1) (m := (mem0 ++ [Blk.row false 58 [.string s0, .string s1]])) (ops := rby1_1) (l1 := lby1_1.take 6) (l3 := lby1_1.drop (6 + 1)) (oc := by1o) (by kernel_rfl) (by11 s0 s1 n) (by15 s0 s1) (by kernel_rfl) (by kernel_rfl) (by kernel_rfl) ((by12 s0 s1 _).trans hj) (by simp) (by13 s0 s1 _ _ _)
  rw [show [Value.agg ⟨[.string s0, .string s1]⟩] ++ List.replicate (Try.f24.ntmps - [Value.agg ⟨[.string s0, .string s1]⟩].length) undef = by1A s0 s1 from rfl]
  simp only [acodeN, by10 s0 s1]
  rw [show E.sr 1 rby1_1 = true from by kernel_rfl, show E.mkr 1 rby1_1 = true from by kernel_rfl]
  simp only [hk]
  exact by14 s0 s1 _ _ _
theorem cbytes1 {n : Nat} (cj : CJoin 9 (runQ E mem0 [] (n + 1)).1) : CBytes 24 (szs11 1) (runQ E mem0 [] (n + 2)).1 := by
  intro m ps hT hl hs
  obtain ⟨s0, s1, rfl⟩ := len2 hl
  have hz := cat_small (N := 1000) hs
  have hr := by1_run s0 s1 cj (by simp only [List.length_cons, List.length_nil] at hz; omega)
  rw [show [s0, s1].map Value.string = [.string s0, .string s1] from rfl, ainv_tabs rfl (by kernel_rfl) hT (runQ_body hr)]
  unfold acoll
  exact if_pos rfl
noncomputable def rby2_0 : Array Oper := match Try.f16.body with
  | some (.seq (.region _ o _) _) => o
  | _ => #[]
noncomputable def lby2_0 : List Oper := match Try.f16.body with
  | some (.seq (.region _ o _) _) => o.toList
  | _ => []
theorem eby2_0 : rby2_0.toList = lby2_0 := rfl
noncomputable def rby2_1 : Array Oper := match Try.f16.body with
  | some (.seq _ (.seq (.region _ o _) _)) => o
  | _ => #[]
noncomputable def lby2_1 : List Oper := match Try.f16.body with
  | some (.seq _ (.seq (.region _ o _) _)) => o.toList
  | _ => []
theorem eby2_1 : rby2_1.toList = lby2_1 := rfl
theorem bodyby2 : Try.f16.body = some (.seq (.region 0 rby2_0 false) (.seq (.region 1 rby2_1 true) .ret)) := rfl
-- ntmps 15
noncomputable def by2o : Oper := match lby2_1.drop 8 with
  | o :: _ => o
  | [] => { dst := none, op := .move (.tmp 0), type := 0, pos := "", after := #[], guard := none }
section
variable (s0 s1 s2 : ByteArray)
noncomputable def by2A : List Value := [.agg ⟨[.string s0, .string s1, .string s2]⟩] ++ List.replicate (15 - 1) undef
noncomputable def by2B : List Value := match aopsN E (fun _ _ _ => none) rby2_0 rby2_0.toList (by2A s0 s1 s2) mem0 with
  | some (T, _) => T
  | none => []
theorem by20 (self : Self) : aopsN E self rby2_0 rby2_0.toList (by2A s0 s1 s2) mem0 = some (by2B s0 s1 s2, (mem0 ++ [Blk.row false 44 [.string s0, .string s1, .string s2]])) := by kernel_rfl
noncomputable def by2C : List Value := match amkT E (runQ E mem0 [] 1).1 rby2_1 (mem0 ++ [Blk.row false 44 [.string s0, .string s1, .string s2]]) (lby2_1.take 8) 0 (by2B s0 s1 s2) [] with
  | some (T, _) => T
  | none => []
theorem by21 (n : Nat) : amkT E (runQ E mem0 [] (n + 1)).1 rby2_1 (mem0 ++ [Blk.row false 44 [.string s0, .string s1, .string s2]]) (lby2_1.take 8) 0 (by2B s0 s1 s2) [] = some (by2C s0 s1 s2, [Blk.row false 3 ((szs11 2).map (Value.int .i64)), Blk.row false 9 [.string s0, .string s1, .string s2]]) := by kernel_rfl
theorem by22 (self : Self) : astep E self (by2C s0 s1 s2) (((mem0 ++ [Blk.row false 44 [.string s0, .string s1, .string s2]]) ++ [Blk.row false 3 ((szs11 2).map (Value.int .i64)), Blk.row false 9 [.string s0, .string s1, .string s2]]).map sealed) by2o = ainv E self 9 [.slice (some ⟨1 + 1, 0, none⟩) 3 3, .slice (some ⟨1 + 2, 0, none⟩) 3 3] (((mem0 ++ [Blk.row false 44 [.string s0, .string s1, .string s2]]) ++ [Blk.row false 3 ((szs11 2).map (Value.int .i64)), Blk.row false 9 [.string s0, .string s1, .string s2]]).map sealed) := by kernel_rfl
noncomputable def by2D (x : ByteArray) (y : Int) : List Value := match amkT E (fun _ _ _ => none) rby2_1 (mem0 ++ [Blk.row false 44 [.string s0, .string s1, .string s2]]) (lby2_1.drop (8 + 1)) (8 + 1) (aput (by2C s0 s1 s2) by2o.dst (.tuple ⟨[.string x, .int .i64 y]⟩)) [Blk.row false 3 ((szs11 2).map (Value.int .i64)), Blk.row false 9 [.string s0, .string s1, .string s2]] with
  | some (T, _) => T
  | none => []
theorem by23 (self : Self) (x : ByteArray) (y : Int) : amkT E self rby2_1 (mem0 ++ [Blk.row false 44 [.string s0, .string s1, .string s2]]) (lby2_1.drop (8 + 1)) (8 + 1) (aput (by2C s0 s1 s2) by2o.dst (.tuple ⟨[.string x, .int .i64 y]⟩)) [Blk.row false 3 ((szs11 2).map (Value.int .i64)), Blk.row false 9 [.string s0, .string s1, .string s2]] = some (by2D s0 s1 s2 x y, [Blk.row false 3 ((szs11 2).map (Value.int .i64)), Blk.row false 9 [.string s0, .string s1, .string s2]]) := by kernel_rfl
theorem by24 (x : ByteArray) (y : Int) (m : Mem) : finish E.P Try.f16 (some (.ret, by2D s0 s1 s2 x y, m)) = some (.tuple ⟨[.string x, .int .i64 y]⟩, m) := by kernel_rfl
theorem by25 : agd rby2_1 (by2C s0 s1 s2) by2o = some true := by kernel_rfl
end
theorem by2_run {n : Nat} (s0 s1 s2 : ByteArray) (cj : CJoin 9 (runQ E mem0 [] (n + 1)).1) (hs : (catL [s0, s1, s2]).size ≤ 100000000) :
    abody E (runQ E mem0 [] (n + 1)).1 (n + 2) 16 [.agg ⟨[.string s0, .string s1, .string s2]⟩] mem0 = some (.tuple ⟨[.string (joinS (szs11 2) [s0, s1, s2]), .int .i64 (joinE (szs11 2) [s0, s1, s2] : Nat)]⟩, (mem0 ++ [Blk.row false 44 [.string s0, .string s1, .string s2]]) ++ [Blk.row false 3 ((szs11 2).map (Value.int .i64)), Blk.row false 9 [.string s0, .string s1, .string s2]]) := by
  rw [abody_eqN (by kernel_rfl) Try.func16 bodyby2 (by kernel_rfl)]
  have hj := cj (((mem0 ++ [Blk.row false 44 [.string s0, .string s1, .string s2]]) ++ [Blk.row false 3 ((szs11 2).map (Value.int .i64)), Blk.row false 9 [.string s0, .string s1, .string s2]]).map sealed) (szs11 2) [s0, s1, s2] (.slice (some ⟨1 + 1, 0, none⟩) 3 3) (.slice (some ⟨1 + 2, 0, none⟩) 3 3) (RS.row (c := 3) (ro := true) (e := 3) (cs := (szs11 2).map (Value.int .i64)) (by kernel_rfl)) (RS.row (c := 3) (ro := true) (e := 9) (cs := [s0, s1, s2].map Value.string) (by kernel_rfl)) (by decide) (by simp) hs (szs_wf 2 (by decide)) (Nat.le_refl _)
  have hk := amk_call (T := by2B s0 s1 s2) (m := (mem0 ++ [Blk.row false 44 [.string s0, .string s1, .string s2]])) (ops := rby2_1) (l1 := lby2_1.take 8) (l3 := lby2_1.drop (8 + 1)) (oc := by2o) (by kernel_rfl) (by21 s0 s1 s2 n) (by25 s0 s1 s2) (by kernel_rfl) (by kernel_rfl) (by kernel_rfl) ((by22 s0 s1 s2 _).trans hj) (by simp) (by23 s0 s1 s2 _ _ _)
  rw [show [Value.agg ⟨[.string s0, .string s1, .string s2]⟩] ++ List.replicate (Try.f16.ntmps - [Value.agg ⟨[.string s0, .string s1, .string s2]⟩].length) undef = by2A s0 s1 s2 from rfl]
  simp only [acodeN, by20 s0 s1 s2]
  rw [show E.sr 1 rby2_1 = true from by kernel_rfl, show E.mkr 1 rby2_1 = true from by kernel_rfl]
  simp only [hk]
  exact by24 s0 s1 s2 _ _ _
theorem cbytes2 {n : Nat} (cj : CJoin 9 (runQ E mem0 [] (n + 1)).1) : CBytes 16 (szs11 2) (runQ E mem0 [] (n + 2)).1 := by
  intro m ps hT hl hs
  obtain ⟨s0, s1, s2, rfl⟩ := len3 hl
  have hz := cat_small (N := 1000) hs
  have hr := by2_run s0 s1 s2 cj (by simp only [List.length_cons, List.length_nil] at hz; omega)
  rw [show [s0, s1, s2].map Value.string = [.string s0, .string s1, .string s2] from rfl, ainv_tabs rfl (by kernel_rfl) hT (runQ_body hr)]
  unfold acoll
  exact if_pos rfl
noncomputable def rby3_0 : Array Oper := match Try.f18.body with
  | some (.seq (.region _ o _) _) => o
  | _ => #[]
noncomputable def lby3_0 : List Oper := match Try.f18.body with
  | some (.seq (.region _ o _) _) => o.toList
  | _ => []
theorem eby3_0 : rby3_0.toList = lby3_0 := rfl
noncomputable def rby3_1 : Array Oper := match Try.f18.body with
  | some (.seq _ (.seq (.region _ o _) _)) => o
  | _ => #[]
noncomputable def lby3_1 : List Oper := match Try.f18.body with
  | some (.seq _ (.seq (.region _ o _) _)) => o.toList
  | _ => []
theorem eby3_1 : rby3_1.toList = lby3_1 := rfl
theorem bodyby3 : Try.f18.body = some (.seq (.region 0 rby3_0 false) (.seq (.region 1 rby3_1 true) .ret)) := rfl
-- ntmps 15
noncomputable def by3o : Oper := match lby3_1.drop 8 with
  | o :: _ => o
  | [] => { dst := none, op := .move (.tmp 0), type := 0, pos := "", after := #[], guard := none }
section
variable (s0 s1 s2 : ByteArray)
noncomputable def by3A : List Value := [.agg ⟨[.string s0, .string s1, .string s2]⟩] ++ List.replicate (15 - 1) undef
noncomputable def by3B : List Value := match aopsN E (fun _ _ _ => none) rby3_0 rby3_0.toList (by3A s0 s1 s2) mem0 with
  | some (T, _) => T
  | none => []
theorem by30 (self : Self) : aopsN E self rby3_0 rby3_0.toList (by3A s0 s1 s2) mem0 = some (by3B s0 s1 s2, (mem0 ++ [Blk.row false 50 [.string s0, .string s1, .string s2]])) := by kernel_rfl
noncomputable def by3C : List Value := match amkT E (runQ E mem0 [] 1).1 rby3_1 (mem0 ++ [Blk.row false 50 [.string s0, .string s1, .string s2]]) (lby3_1.take 8) 0 (by3B s0 s1 s2) [] with
  | some (T, _) => T
  | none => []
theorem by31 (n : Nat) : amkT E (runQ E mem0 [] (n + 1)).1 rby3_1 (mem0 ++ [Blk.row false 50 [.string s0, .string s1, .string s2]]) (lby3_1.take 8) 0 (by3B s0 s1 s2) [] = some (by3C s0 s1 s2, [Blk.row false 3 ((szs11 3).map (Value.int .i64)), Blk.row false 9 [.string s0, .string s1, .string s2]]) := by kernel_rfl
theorem by32 (self : Self) : astep E self (by3C s0 s1 s2) (((mem0 ++ [Blk.row false 50 [.string s0, .string s1, .string s2]]) ++ [Blk.row false 3 ((szs11 3).map (Value.int .i64)), Blk.row false 9 [.string s0, .string s1, .string s2]]).map sealed) by3o = ainv E self 9 [.slice (some ⟨1 + 1, 0, none⟩) 3 3, .slice (some ⟨1 + 2, 0, none⟩) 3 3] (((mem0 ++ [Blk.row false 50 [.string s0, .string s1, .string s2]]) ++ [Blk.row false 3 ((szs11 3).map (Value.int .i64)), Blk.row false 9 [.string s0, .string s1, .string s2]]).map sealed) := by kernel_rfl
noncomputable def by3D (x : ByteArray) (y : Int) : List Value := match amkT E (fun _ _ _ => none) rby3_1 (mem0 ++ [Blk.row false 50 [.string s0, .string s1, .string s2]]) (lby3_1.drop (8 + 1)) (8 + 1) (aput (by3C s0 s1 s2) by3o.dst (.tuple ⟨[.string x, .int .i64 y]⟩)) [Blk.row false 3 ((szs11 3).map (Value.int .i64)), Blk.row false 9 [.string s0, .string s1, .string s2]] with
  | some (T, _) => T
  | none => []
theorem by33 (self : Self) (x : ByteArray) (y : Int) : amkT E self rby3_1 (mem0 ++ [Blk.row false 50 [.string s0, .string s1, .string s2]]) (lby3_1.drop (8 + 1)) (8 + 1) (aput (by3C s0 s1 s2) by3o.dst (.tuple ⟨[.string x, .int .i64 y]⟩)) [Blk.row false 3 ((szs11 3).map (Value.int .i64)), Blk.row false 9 [.string s0, .string s1, .string s2]] = some (by3D s0 s1 s2 x y, [Blk.row false 3 ((szs11 3).map (Value.int .i64)), Blk.row false 9 [.string s0, .string s1, .string s2]]) := by kernel_rfl
theorem by34 (x : ByteArray) (y : Int) (m : Mem) : finish E.P Try.f18 (some (.ret, by3D s0 s1 s2 x y, m)) = some (.tuple ⟨[.string x, .int .i64 y]⟩, m) := by kernel_rfl
theorem by35 : agd rby3_1 (by3C s0 s1 s2) by3o = some true := by kernel_rfl
end
theorem by3_run {n : Nat} (s0 s1 s2 : ByteArray) (cj : CJoin 9 (runQ E mem0 [] (n + 1)).1) (hs : (catL [s0, s1, s2]).size ≤ 100000000) :
    abody E (runQ E mem0 [] (n + 1)).1 (n + 2) 18 [.agg ⟨[.string s0, .string s1, .string s2]⟩] mem0 = some (.tuple ⟨[.string (joinS (szs11 3) [s0, s1, s2]), .int .i64 (joinE (szs11 3) [s0, s1, s2] : Nat)]⟩, (mem0 ++ [Blk.row false 50 [.string s0, .string s1, .string s2]]) ++ [Blk.row false 3 ((szs11 3).map (Value.int .i64)), Blk.row false 9 [.string s0, .string s1, .string s2]]) := by
  rw [abody_eqN (by kernel_rfl) Try.func18 bodyby3 (by kernel_rfl)]
  have hj := cj (((mem0 ++ [Blk.row false 50 [.string s0, .string s1, .string s2]]) ++ [Blk.row false 3 ((szs11 3).map (Value.int .i64)), Blk.row false 9 [.string s0, .string s1, .string s2]]).map sealed) (szs11 3) [s0, s1, s2] (.slice (some ⟨1 + 1, 0, none⟩) 3 3) (.slice (some ⟨1 + 2, 0, none⟩) 3 3) (RS.row (c := 3) (ro := true) (e := 3) (cs := (szs11 3).map (Value.int .i64)) (by kernel_rfl)) (RS.row (c := 3) (ro := true) (e := 9) (cs := [s0, s1, s2].map Value.string) (by kernel_rfl)) (by decide) (by simp) hs (szs_wf 3 (by decide)) (Nat.le_refl _)
  have hk := amk_call (T := by3B s0 s1 s2) (m := (mem0 ++ [Blk.row false 50 [.string s0, .string s1, .string s2]])) (ops := rby3_1) (l1 := lby3_1.take 8) (l3 := lby3_1.drop (8 + 1)) (oc := by3o) (by kernel_rfl) (by31 s0 s1 s2 n) (by35 s0 s1 s2) (by kernel_rfl) (by kernel_rfl) (by kernel_rfl) ((by32 s0 s1 s2 _).trans hj) (by simp) (by33 s0 s1 s2 _ _ _)
  rw [show [Value.agg ⟨[.string s0, .string s1, .string s2]⟩] ++ List.replicate (Try.f18.ntmps - [Value.agg ⟨[.string s0, .string s1, .string s2]⟩].length) undef = by3A s0 s1 s2 from rfl]
  simp only [acodeN, by30 s0 s1 s2]
  rw [show E.sr 1 rby3_1 = true from by kernel_rfl, show E.mkr 1 rby3_1 = true from by kernel_rfl]
  simp only [hk]
  exact by34 s0 s1 s2 _ _ _
theorem cbytes3 {n : Nat} (cj : CJoin 9 (runQ E mem0 [] (n + 1)).1) : CBytes 18 (szs11 3) (runQ E mem0 [] (n + 2)).1 := by
  intro m ps hT hl hs
  obtain ⟨s0, s1, s2, rfl⟩ := len3 hl
  have hz := cat_small (N := 1000) hs
  have hr := by3_run s0 s1 s2 cj (by simp only [List.length_cons, List.length_nil] at hz; omega)
  rw [show [s0, s1, s2].map Value.string = [.string s0, .string s1, .string s2] from rfl, ainv_tabs rfl (by kernel_rfl) hT (runQ_body hr)]
  unfold acoll
  exact if_pos rfl
noncomputable def rby4_0 : Array Oper := match Try.f15.body with
  | some (.seq (.region _ o _) _) => o
  | _ => #[]
noncomputable def lby4_0 : List Oper := match Try.f15.body with
  | some (.seq (.region _ o _) _) => o.toList
  | _ => []
theorem eby4_0 : rby4_0.toList = lby4_0 := rfl
noncomputable def rby4_1 : Array Oper := match Try.f15.body with
  | some (.seq _ (.seq (.region _ o _) _)) => o
  | _ => #[]
noncomputable def lby4_1 : List Oper := match Try.f15.body with
  | some (.seq _ (.seq (.region _ o _) _)) => o.toList
  | _ => []
theorem eby4_1 : rby4_1.toList = lby4_1 := rfl
theorem bodyby4 : Try.f15.body = some (.seq (.region 0 rby4_0 false) (.seq (.region 1 rby4_1 true) .ret)) := rfl
-- ntmps 21
noncomputable def by4o : Oper := match lby4_1.drop 14 with
  | o :: _ => o
  | [] => { dst := none, op := .move (.tmp 0), type := 0, pos := "", after := #[], guard := none }
section
variable (s0 s1 s2 s3 s4 s5 : ByteArray)
noncomputable def by4A : List Value := [.agg ⟨[.string s0, .string s1, .string s2, .string s3, .string s4, .string s5]⟩] ++ List.replicate (21 - 1) undef
noncomputable def by4B : List Value := match aopsN E (fun _ _ _ => none) rby4_0 rby4_0.toList (by4A s0 s1 s2 s3 s4 s5) mem0 with
  | some (T, _) => T
  | none => []
theorem by40 (self : Self) : aopsN E self rby4_0 rby4_0.toList (by4A s0 s1 s2 s3 s4 s5) mem0 = some (by4B s0 s1 s2 s3 s4 s5, (mem0 ++ [Blk.row false 42 [.string s0, .string s1, .string s2, .string s3, .string s4, .string s5]])) := by kernel_rfl
noncomputable def by4C : List Value := match amkT E (runQ E mem0 [] 1).1 rby4_1 (mem0 ++ [Blk.row false 42 [.string s0, .string s1, .string s2, .string s3, .string s4, .string s5]]) (lby4_1.take 14) 0 (by4B s0 s1 s2 s3 s4 s5) [] with
  | some (T, _) => T
  | none => []
theorem by41 (n : Nat) : amkT E (runQ E mem0 [] (n + 1)).1 rby4_1 (mem0 ++ [Blk.row false 42 [.string s0, .string s1, .string s2, .string s3, .string s4, .string s5]]) (lby4_1.take 14) 0 (by4B s0 s1 s2 s3 s4 s5) [] = some (by4C s0 s1 s2 s3 s4 s5, [Blk.row false 3 ((szs11 4).map (Value.int .i64)), Blk.row false 9 [.string s0, .string s1, .string s2, .string s3, .string s4, .string s5]]) := by kernel_rfl
theorem by42 (self : Self) : astep E self (by4C s0 s1 s2 s3 s4 s5) (((mem0 ++ [Blk.row false 42 [.string s0, .string s1, .string s2, .string s3, .string s4, .string s5]]) ++ [Blk.row false 3 ((szs11 4).map (Value.int .i64)), Blk.row false 9 [.string s0, .string s1, .string s2, .string s3, .string s4, .string s5]]).map sealed) by4o = ainv E self 9 [.slice (some ⟨1 + 1, 0, none⟩) 6 6, .slice (some ⟨1 + 2, 0, none⟩) 6 6] (((mem0 ++ [Blk.row false 42 [.string s0, .string s1, .string s2, .string s3, .string s4, .string s5]]) ++ [Blk.row false 3 ((szs11 4).map (Value.int .i64)), Blk.row false 9 [.string s0, .string s1, .string s2, .string s3, .string s4, .string s5]]).map sealed) := by kernel_rfl
noncomputable def by4D (x : ByteArray) (y : Int) : List Value := match amkT E (fun _ _ _ => none) rby4_1 (mem0 ++ [Blk.row false 42 [.string s0, .string s1, .string s2, .string s3, .string s4, .string s5]]) (lby4_1.drop (14 + 1)) (14 + 1) (aput (by4C s0 s1 s2 s3 s4 s5) by4o.dst (.tuple ⟨[.string x, .int .i64 y]⟩)) [Blk.row false 3 ((szs11 4).map (Value.int .i64)), Blk.row false 9 [.string s0, .string s1, .string s2, .string s3, .string s4, .string s5]] with
  | some (T, _) => T
  | none => []
theorem by43 (self : Self) (x : ByteArray) (y : Int) : amkT E self rby4_1 (mem0 ++ [Blk.row false 42 [.string s0, .string s1, .string s2, .string s3, .string s4, .string s5]]) (lby4_1.drop (14 + 1)) (14 + 1) (aput (by4C s0 s1 s2 s3 s4 s5) by4o.dst (.tuple ⟨[.string x, .int .i64 y]⟩)) [Blk.row false 3 ((szs11 4).map (Value.int .i64)), Blk.row false 9 [.string s0, .string s1, .string s2, .string s3, .string s4, .string s5]] = some (by4D s0 s1 s2 s3 s4 s5 x y, [Blk.row false 3 ((szs11 4).map (Value.int .i64)), Blk.row false 9 [.string s0, .string s1, .string s2, .string s3, .string s4, .string s5]]) := by kernel_rfl
theorem by44 (x : ByteArray) (y : Int) (m : Mem) : finish E.P Try.f15 (some (.ret, by4D s0 s1 s2 s3 s4 s5 x y, m)) = some (.tuple ⟨[.string x, .int .i64 y]⟩, m) := by kernel_rfl
theorem by45 : agd rby4_1 (by4C s0 s1 s2 s3 s4 s5) by4o = some true := by kernel_rfl
end
theorem by4_run {n : Nat} (s0 s1 s2 s3 s4 s5 : ByteArray) (cj : CJoin 9 (runQ E mem0 [] (n + 1)).1) (hs : (catL [s0, s1, s2, s3, s4, s5]).size ≤ 100000000) :
    abody E (runQ E mem0 [] (n + 1)).1 (n + 2) 15 [.agg ⟨[.string s0, .string s1, .string s2, .string s3, .string s4, .string s5]⟩] mem0 = some (.tuple ⟨[.string (joinS (szs11 4) [s0, s1, s2, s3, s4, s5]), .int .i64 (joinE (szs11 4) [s0, s1, s2, s3, s4, s5] : Nat)]⟩, (mem0 ++ [Blk.row false 42 [.string s0, .string s1, .string s2, .string s3, .string s4, .string s5]]) ++ [Blk.row false 3 ((szs11 4).map (Value.int .i64)), Blk.row false 9 [.string s0, .string s1, .string s2, .string s3, .string s4, .string s5]]) := by
  rw [abody_eqN (by kernel_rfl) Try.func15 bodyby4 (by kernel_rfl)]
  have hj := cj (((mem0 ++ [Blk.row false 42 [.string s0, .string s1, .string s2, .string s3, .string s4, .string s5]]) ++ [Blk.row false 3 ((szs11 4).map (Value.int .i64)), Blk.row false 9 [.string s0, .string s1, .string s2, .string s3, .string s4, .string s5]]).map sealed) (szs11 4) [s0, s1, s2, s3, s4, s5] (.slice (some ⟨1 + 1, 0, none⟩) 6 6) (.slice (some ⟨1 + 2, 0, none⟩) 6 6) (RS.row (c := 6) (ro := true) (e := 3) (cs := (szs11 4).map (Value.int .i64)) (by kernel_rfl)) (RS.row (c := 6) (ro := true) (e := 9) (cs := [s0, s1, s2, s3, s4, s5].map Value.string) (by kernel_rfl)) (by decide) (by simp) hs (szs_wf 4 (by decide)) (Nat.le_refl _)
  have hk := amk_call (T := by4B s0 s1 s2 s3 s4 s5) (m := (mem0 ++ [Blk.row false 42 [.string s0, .string s1, .string s2, .string s3, .string s4, .string s5]])) (ops := rby4_1) (l1 := lby4_1.take 14) (l3 := lby4_1.drop (14 + 1)) (oc := by4o) (by kernel_rfl) (by41 s0 s1 s2 s3 s4 s5 n) (by45 s0 s1 s2 s3 s4 s5) (by kernel_rfl) (by kernel_rfl) (by kernel_rfl) ((by42 s0 s1 s2 s3 s4 s5 _).trans hj) (by simp) (by43 s0 s1 s2 s3 s4 s5 _ _ _)
  rw [show [Value.agg ⟨[.string s0, .string s1, .string s2, .string s3, .string s4, .string s5]⟩] ++ List.replicate (Try.f15.ntmps - [Value.agg ⟨[.string s0, .string s1, .string s2, .string s3, .string s4, .string s5]⟩].length) undef = by4A s0 s1 s2 s3 s4 s5 from rfl]
  simp only [acodeN, by40 s0 s1 s2 s3 s4 s5]
  rw [show E.sr 1 rby4_1 = true from by kernel_rfl, show E.mkr 1 rby4_1 = true from by kernel_rfl]
  simp only [hk]
  exact by44 s0 s1 s2 s3 s4 s5 _ _ _
theorem cbytes4 {n : Nat} (cj : CJoin 9 (runQ E mem0 [] (n + 1)).1) : CBytes 15 (szs11 4) (runQ E mem0 [] (n + 2)).1 := by
  intro m ps hT hl hs
  obtain ⟨s0, s1, s2, s3, s4, s5, rfl⟩ := len6 hl
  have hz := cat_small (N := 1000) hs
  have hr := by4_run s0 s1 s2 s3 s4 s5 cj (by simp only [List.length_cons, List.length_nil] at hz; omega)
  rw [show [s0, s1, s2, s3, s4, s5].map Value.string = [.string s0, .string s1, .string s2, .string s3, .string s4, .string s5] from rfl, ainv_tabs rfl (by kernel_rfl) hT (runQ_body hr)]
  unfold acoll
  exact if_pos rfl
noncomputable def rby5_0 : Array Oper := match Try.f29.body with
  | some (.seq (.region _ o _) _) => o
  | _ => #[]
noncomputable def lby5_0 : List Oper := match Try.f29.body with
  | some (.seq (.region _ o _) _) => o.toList
  | _ => []
theorem eby5_0 : rby5_0.toList = lby5_0 := rfl
noncomputable def rby5_1 : Array Oper := match Try.f29.body with
  | some (.seq _ (.seq (.region _ o _) _)) => o
  | _ => #[]
noncomputable def lby5_1 : List Oper := match Try.f29.body with
  | some (.seq _ (.seq (.region _ o _) _)) => o.toList
  | _ => []
theorem eby5_1 : rby5_1.toList = lby5_1 := rfl
theorem bodyby5 : Try.f29.body = some (.seq (.region 0 rby5_0 false) (.seq (.region 1 rby5_1 true) .ret)) := rfl
-- ntmps 11
noncomputable def by5o : Oper := match lby5_1.drop 4 with
  | o :: _ => o
  | [] => { dst := none, op := .move (.tmp 0), type := 0, pos := "", after := #[], guard := none }
section
variable (s0 : ByteArray)
noncomputable def by5A : List Value := [.agg ⟨[.string s0]⟩] ++ List.replicate (11 - 1) undef
noncomputable def by5B : List Value := match aopsN E (fun _ _ _ => none) rby5_0 rby5_0.toList (by5A s0) mem0 with
  | some (T, _) => T
  | none => []
theorem by50 (self : Self) : aopsN E self rby5_0 rby5_0.toList (by5A s0) mem0 = some (by5B s0, (mem0 ++ [Blk.row false 68 [.string s0]])) := by kernel_rfl
noncomputable def by5C : List Value := match amkT E (runQ E mem0 [] 1).1 rby5_1 (mem0 ++ [Blk.row false 68 [.string s0]]) (lby5_1.take 4) 0 (by5B s0) [] with
  | some (T, _) => T
  | none => []
theorem by51 (n : Nat) : amkT E (runQ E mem0 [] (n + 1)).1 rby5_1 (mem0 ++ [Blk.row false 68 [.string s0]]) (lby5_1.take 4) 0 (by5B s0) [] = some (by5C s0, [Blk.row false 3 ((szs11 5).map (Value.int .i64)), Blk.row false 9 [.string s0]]) := by kernel_rfl
theorem by52 (self : Self) : astep E self (by5C s0) (((mem0 ++ [Blk.row false 68 [.string s0]]) ++ [Blk.row false 3 ((szs11 5).map (Value.int .i64)), Blk.row false 9 [.string s0]]).map sealed) by5o = ainv E self 9 [.slice (some ⟨1 + 1, 0, none⟩) 1 1, .slice (some ⟨1 + 2, 0, none⟩) 1 1] (((mem0 ++ [Blk.row false 68 [.string s0]]) ++ [Blk.row false 3 ((szs11 5).map (Value.int .i64)), Blk.row false 9 [.string s0]]).map sealed) := by kernel_rfl
noncomputable def by5D (x : ByteArray) (y : Int) : List Value := match amkT E (fun _ _ _ => none) rby5_1 (mem0 ++ [Blk.row false 68 [.string s0]]) (lby5_1.drop (4 + 1)) (4 + 1) (aput (by5C s0) by5o.dst (.tuple ⟨[.string x, .int .i64 y]⟩)) [Blk.row false 3 ((szs11 5).map (Value.int .i64)), Blk.row false 9 [.string s0]] with
  | some (T, _) => T
  | none => []
theorem by53 (self : Self) (x : ByteArray) (y : Int) : amkT E self rby5_1 (mem0 ++ [Blk.row false 68 [.string s0]]) (lby5_1.drop (4 + 1)) (4 + 1) (aput (by5C s0) by5o.dst (.tuple ⟨[.string x, .int .i64 y]⟩)) [Blk.row false 3 ((szs11 5).map (Value.int .i64)), Blk.row false 9 [.string s0]] = some (by5D s0 x y, [Blk.row false 3 ((szs11 5).map (Value.int .i64)), Blk.row false 9 [.string s0]]) := by kernel_rfl
theorem by54 (x : ByteArray) (y : Int) (m : Mem) : finish E.P Try.f29 (some (.ret, by5D s0 x y, m)) = some (.tuple ⟨[.string x, .int .i64 y]⟩, m) := by kernel_rfl
theorem by55 : agd rby5_1 (by5C s0) by5o = some true := by kernel_rfl
end
theorem by5_run {n : Nat} (s0 : ByteArray) (cj : CJoin 9 (runQ E mem0 [] (n + 1)).1) (hs : (catL [s0]).size ≤ 100000000) :
    abody E (runQ E mem0 [] (n + 1)).1 (n + 2) 29 [.agg ⟨[.string s0]⟩] mem0 = some (.tuple ⟨[.string (joinS (szs11 5) [s0]), .int .i64 (joinE (szs11 5) [s0] : Nat)]⟩, (mem0 ++ [Blk.row false 68 [.string s0]]) ++ [Blk.row false 3 ((szs11 5).map (Value.int .i64)), Blk.row false 9 [.string s0]]) := by
  rw [abody_eqN (by kernel_rfl) Try.func29 bodyby5 (by kernel_rfl)]
  have hj := cj (((mem0 ++ [Blk.row false 68 [.string s0]]) ++ [Blk.row false 3 ((szs11 5).map (Value.int .i64)), Blk.row false 9 [.string s0]]).map sealed) (szs11 5) [s0] (.slice (some ⟨1 + 1, 0, none⟩) 1 1) (.slice (some ⟨1 + 2, 0, none⟩) 1 1) (RS.row (c := 1) (ro := true) (e := 3) (cs := (szs11 5).map (Value.int .i64)) (by kernel_rfl)) (RS.row (c := 1) (ro := true) (e := 9) (cs := [s0].map Value.string) (by kernel_rfl)) (by decide) (by simp) hs (szs_wf 5 (by decide)) (Nat.le_refl _)
  have hk := amk_call (T := by5B s0) (m := (mem0 ++ [Blk.row false 68 [.string s0]])) (ops := rby5_1) (l1 := lby5_1.take 4) (l3 := lby5_1.drop (4 + 1)) (oc := by5o) (by kernel_rfl) (by51 s0 n) (by55 s0) (by kernel_rfl) (by kernel_rfl) (by kernel_rfl) ((by52 s0 _).trans hj) (by simp) (by53 s0 _ _ _)
  rw [show [Value.agg ⟨[.string s0]⟩] ++ List.replicate (Try.f29.ntmps - [Value.agg ⟨[.string s0]⟩].length) undef = by5A s0 from rfl]
  simp only [acodeN, by50 s0]
  rw [show E.sr 1 rby5_1 = true from by kernel_rfl, show E.mkr 1 rby5_1 = true from by kernel_rfl]
  simp only [hk]
  exact by54 s0 _ _ _
theorem cbytes5 {n : Nat} (cj : CJoin 9 (runQ E mem0 [] (n + 1)).1) : CBytes 29 (szs11 5) (runQ E mem0 [] (n + 2)).1 := by
  intro m ps hT hl hs
  obtain ⟨s0, rfl⟩ := len1 hl
  have hz := cat_small (N := 1000) hs
  have hr := by5_run s0 cj (by simp only [List.length_cons, List.length_nil] at hz; omega)
  rw [show [s0].map Value.string = [.string s0] from rfl, ainv_tabs rfl (by kernel_rfl) hT (runQ_body hr)]
  unfold acoll
  exact if_pos rfl
end Go.Am.Seat

/-
  The chapter's example of layer 11 (own work).
-/
set_option linter.unusedSimpArgs false
set_option linter.unusedVariables false
namespace Go.Am.Seat
open Go.Proofs Go.Am
set_option maxRecDepth 100000

theorem awake11_run : ((runQ E mem0 [] 2000).1 6 [] mem0).map (·.1) = some (.bool true) := by kernel_rfl
theorem awake11 : ∀ m, Tabs m → ainv E (runQ E mem0 [] 2000).1 6 [] m = some (.bool true, m) := by
  intro m hm
  obtain ⟨⟨v, m1⟩, h1, h2⟩ := Option.map_eq_some_iff.1 awake11_run
  have h2 : v = .bool true := h2
  subst h2
  rw [ainv_tabs rfl (by kernel_rfl) hm h1]
  unfold acoll
  exact if_pos rfl
noncomputable def ran_0 : Array Oper := match Try.f17.body with
  | some (.seq (.region _ o _) _) => o
  | _ => #[]
noncomputable def lan_0 : List Oper := match Try.f17.body with
  | some (.seq (.region _ o _) _) => o.toList
  | _ => []
theorem ean_0 : ran_0.toList = lan_0 := rfl
noncomputable def ran_1 : Array Oper := match Try.f17.body with
  | some (.seq _ (.seq (.region _ o _) _)) => o
  | _ => #[]
noncomputable def lan_1 : List Oper := match Try.f17.body with
  | some (.seq _ (.seq (.region _ o _) _)) => o.toList
  | _ => []
theorem ean_1 : ran_1.toList = lan_1 := rfl
theorem bodyan : Try.f17.body = some (.seq (.region 0 ran_0 false) (.seq (.region 1 ran_1 false) .ret)) := rfl
-- ntmps 11

theorem anc0 (a b c d e g : ByteArray) : cellAt (mem0 ++ [.row false 42 [.string a, .string b, .string c, .string d, .string e, .string g]]) (1 + 0) 0 = some (.string a) := by kernel_rfl
theorem anc1 (a b c d e g : ByteArray) : cellAt (mem0 ++ [.row false 42 [.string a, .string b, .string c, .string d, .string e, .string g]]) (1 + 0) 1 = some (.string b) := by kernel_rfl
theorem anc2 (a b c d e g : ByteArray) : cellAt (mem0 ++ [.row false 42 [.string a, .string b, .string c, .string d, .string e, .string g]]) (1 + 0) 2 = some (.string c) := by kernel_rfl
theorem canswer {n : Nat} : CAnswer 17 (runQ E mem0 [] (n + 1)).1 := by
  intro m a b c d e g hm hs
  have ha : a.size ≤ 1000 := hs a (by simp)
  have hb : b.size ≤ 1000 := hs b (by simp)
  have hc : c.size ≤ 1000 := hs c (by simp)
  have a1 : a.size + b.size ≤ 9223372036854775807 := by omega
  have a2 : (a ++ b).size + c.size ≤ 9223372036854775807 := by rw [ByteArray.size_append]; omega
  have hr : abody E (runQ E mem0 [] n).1 (n + 1) 17 [.agg ⟨[.string a, .string b, .string c, .string d, .string e, .string g]⟩] mem0 = some (.string (a ++ b ++ c), (mem0 ++ [.row false 42 [.string a, .string b, .string c, .string d, .string e, .string g]])) := by
    rw [abody_eqF (by kernel_rfl) Try.func17 bodyan (by kernel_rfl) (Nat.le_of_ble_eq_true rfl)]
    rw [show Try.f17.ntmps = 11 from rfl]
    simp only [ean_0, ean_1, lan_0, lan_1, agd_none, gdAt, gdV_bool, gdV_undef, Try.f17, List.append_eq, List.cons_append, List.nil_append, apure_call1, apure_call2, apure_call3, bft, btf, acodeN, List.getElem?_toArray, List.getElem?_cons_zero, List.getElem?_cons_succ, aopsN, adrawT, cls, astep, aop, afloat, ev, nth_lst, get_lst, aput, setAt_lst, upd_at, init_zero, init_succ, init_nil, Nat.reduceLT, Nat.reduceEqDiff, reduceIte, abuiltin, alen, Option.map_some, Option.map_none, orElse_some, apure_add, apure_eqlV, eqlVal_str, eqlVal_bool, eqlVal_ptr, eqlVal_slice, eqlVal_int, allT, ↓aop_eqlV, apure_neq, List.map_cons, List.map_nil, List.all_cons, List.all_nil, lit2, lit1, lit0, List.isEmpty_nil, Bool.and_self, Bool.and_true, Bool.true_and, Bool.false_and, Bool.and_false, Bool.not_true, Bool.not_false, Bool.or_true, Bool.true_or, Bool.false_or, Bool.or_false, Bool.false_eq_true, if_true, if_false, List.length_map, beq_self_eq_true, und3, und4, und5, und9, wwb0 a b c d e g, wwf0_0, wwf0_1, wwf0_2, anc0 a b c d e g, anc1 a b c d e g, anc2 a b c d e g, ldS, a1, a2, finish, ares, aresL, ares1]
  rw [ainv_tabs rfl (by kernel_rfl) hm (runQ_body hr)]
  unfold acoll
  exact if_pos rfl
end Go.Am.Seat

/-
  strings.Builder: texts written, from nothing on (own work).
-/
set_option linter.unusedSimpArgs false
set_option linter.unusedVariables false
namespace Go.Am.Seat
open Go.Proofs Go.Am
set_option maxRecDepth 100000

section
variable {self : Self} {n q : Nat} {m : Mem}
theorem ccQ_fresh {bf : Value} (hq : m[q]? = some (.row false 76 [.pointer none, bf])) :
    abody E self n 52 [.pointer (some ⟨q, 0, none⟩)] m = some (.tuple ⟨[]⟩, m.set q (.row false 76 [.pointer (some ⟨q, 0, none⟩), bf])) := by
  rw [abody_eqN (by kernel_rfl) Try.func52 rfl (by kernel_rfl)]
  rw [show ([Value.pointer (some ⟨q, 0, none⟩)] ++ List.replicate (Try.f52.ntmps - [Value.pointer (some ⟨q, 0, none⟩)].length) undef) = [.pointer (some ⟨q, 0, none⟩), undef, undef, undef, undef, undef, undef, undef, undef, undef, undef, undef, undef, undef, undef, undef, undef, undef, undef, undef] from rfl]
  have hc0 : cellAt m q 0 = some (.pointer none) := cellAt_row hq 0
  have hp : ∀ (v2 v3 v4 : Value) (pos : String) (af : Array Edge), apureC E.P [.pointer (some ⟨q, 0, none⟩), undef, v2, v3, v4, .pointer none, undef, undef, undef, undef, undef, undef, undef, undef, undef, undef, undef, undef, undef, undef]
      { dst := some 6, op := .binOp .eql 74 (.tmp 5) (.const (.pointer none)) 74, type := 4, pos := pos, after := af, guard := none } = some (.bool true) := by
    intro v2 v3 v4 pos af
    kernel_rfl
  simp only [acodeN, aopsN, agd, astep, aop, ev, nth_zero, nth_succ, aput, setAt_zero, setAt_succ, Option.map_some, Option.map_none, fa86_0, load84, hc0, hp, Nat.zero_add, Nat.add_zero, call94, ext94, conv84, conv127, convB84, convB127, ptr84 hq rfl, ptr127 hq rfl, apure_convert, apure_binOp, isAddr, List.isEmpty_nil, Bool.and_self, if_true, aext, List.map_cons, List.map_nil, store84 hq (show 0 < 2 by omega)]
  rfl

theorem ccQ_used {bf : Value} (hq : m[q]? = some (.row false 76 [.pointer (some ⟨q, 0, none⟩), bf])) :
    abody E self n 52 [.pointer (some ⟨q, 0, none⟩)] m = some (.tuple ⟨[]⟩, m) := by
  rw [abody_eqN (by kernel_rfl) Try.func52 rfl (by kernel_rfl)]
  rw [show ([Value.pointer (some ⟨q, 0, none⟩)] ++ List.replicate (Try.f52.ntmps - [Value.pointer (some ⟨q, 0, none⟩)].length) undef) = [.pointer (some ⟨q, 0, none⟩), undef, undef, undef, undef, undef, undef, undef, undef, undef, undef, undef, undef, undef, undef, undef, undef, undef, undef, undef] from rfl]
  have hc0 : cellAt m q 0 = some (.pointer (some ⟨q, 0, none⟩)) := cellAt_row hq 0
  simp only [acodeN, aopsN, agd, astep, aop, ev, nth_zero, nth_succ, aput, setAt_zero, setAt_succ, Option.map_some, Option.map_none, fa86_0, load84, hc0, Nat.zero_add, Nat.add_zero, apure_binOp, isAddr, aeq84, aeq84n, Bool.not_true]
  rfl


theorem app_zero {xT : TypeId} {xd : TypeDesc} (hd : E.P.underlying xT = some xd) (hi : isIntD xd = false) {x : Value} (hx : asrc m 1 x = some (0, [])) :
    aappend E.P 48 xT (.slice none 0 0) x m = some (.slice none 0 0, m) := by
  obtain ⟨i, z, h1, h2, h3, h4, h5⟩ := info5
  unfold aappend
  simp only [show E.P.underlying 48 = some (.slice 5) from Try.underlying48, hd, h1, h2, h3, hx, hi, h4, h5]
  rw [if_neg (by simp)]
  exact if_pos trivial

/-- The buffer: nothing yet (not even looked at, or looked at), or these bytes. -/
def BufQ (m : Mem) (q : Nat) (l : List Int) : Prop :=
  (l = [] ∧ m[q]? = some (.row false 76 [.pointer none, .slice none 0 0])) ∨
  (l = [] ∧ m[q]? = some (.row false 76 [.pointer (some ⟨q, 0, none⟩), .slice none 0 0])) ∨
  (∃ b, q < b ∧ m[q]? = some (.row false 76 [.pointer (some ⟨q, 0, none⟩), .slice (some ⟨b, 0, none⟩) l.length l.length]) ∧ m[b]? = some (.row false 5 (l.map (.int .u8))) ∧ l ≠ [])

theorem bytesI_len (s : ByteArray) : (bytesI s).length = s.data.toList.length := by simp [bytesI]

/-- A text is written where there is nothing yet. -/
theorem writeQ_first {m1 : Mem} (s : ByteArray) (hcc : self 52 [.pointer (some ⟨q, 0, none⟩)] m = some (.tuple ⟨[]⟩, m1)) (h1 : m1[q]? = some (.row false 76 [.pointer (some ⟨q, 0, none⟩), .slice none 0 0])) (hs : s.data.toList.length ≤ 1000000000) :
    ∃ v m', abody E self n 35 [.pointer (some ⟨q, 0, none⟩), .string s] m = some (v, m') ∧ BufQ m' q (bytesI s) ∧ Keeps m1 q m' := by
  have hqm := lt_of_at h1
  by_cases h0 : s.data.toList.length = 0
  · have hnil : bytesI s = [] := List.eq_nil_of_length_eq_zero (by rw [bytesI_len]; omega)
    have hsrc := src_string (m := m1) s
    rw [h0, hnil] at hsrc
    have happ := app_zero (m := m1) (xT := 9) Try.underlying9 rfl hsrc
    have hst := store35 h1 (o := 1) (show 1 < 2 by omega) none 0 0
    obtain ⟨v, hv⟩ := body65 (n := n) hcc (cellAt_row h1 1) happ hst
    refine ⟨v, _, hv, .inr (.inl ⟨hnil, ?_⟩), fun k hk => ?_⟩
    · rw [List.getElem?_set_self hqm]
      rfl
    · rw [List.getElem?_set_ne (by omega)]
  · have happ := app_fresh (m := m1) (xT := 9) Try.underlying9 rfl (src_string (m := m1) s) (all_bytes _) h0 (by omega)
    have h2 : (m1 ++ [.row false 5 ((bytesI s).map (.int .u8))])[q]? = some (Blk.row false 76 [.pointer (some ⟨q, 0, none⟩), .slice none 0 0]) := by
      rw [List.getElem?_append_left hqm]
      exact h1
    have hst := store35 h2 (o := 1) (show 1 < 2 by omega) (some ⟨m1.length, 0, none⟩) s.data.toList.length s.data.toList.length
    obtain ⟨v, hv⟩ := body65 (n := n) hcc (cellAt_row h1 1) happ hst
    refine ⟨v, _, hv, .inr (.inr ⟨m1.length, hqm, ?_, ?_, fun h => h0 ?_⟩), fun k hk => ?_⟩
    · rw [List.getElem?_set_self (by simp; omega), bytesI_len]
      rfl
    · rw [List.getElem?_set_ne (by omega), List.getElem?_append_right (Nat.le_refl _)]
      simp
    · rw [← bytesI_len, h]; rfl
    · rw [List.getElem?_set_ne (by omega), List.getElem?_append_left (by omega)]

theorem writeQ {l : List Int} (s : ByteArray) (hb : BufQ m q l) (hl : l.length ≤ 1000000000) (hs : s.data.toList.length ≤ 1000000000) :
    ∃ v m', (runQ E mem0 [] (n + 2)).1 35 [.pointer (some ⟨q, 0, none⟩), .string s] m = some (v, m') ∧ BufQ m' q (l ++ bytesI s) ∧ Keeps m q m' := by
  rcases hb with ⟨rfl, hq⟩ | ⟨rfl, hq⟩ | ⟨b, hqb, hq, hbb, hne⟩
  · have hqm := lt_of_at hq
    have hcc := runQ_body (M := mem0) (n := n) (ccQ_fresh (self := (runQ E mem0 [] n).1) (n := n + 1) hq)
    obtain ⟨v, m', h1, h2, h3⟩ := writeQ_first (n := n + 2) s hcc (by simp [hqm]) hs
    refine ⟨v, m', runQ_body h1, by simpa using h2, fun k hk => ?_⟩
    rw [h3 k hk, List.getElem?_set_ne (by omega)]
  · have hcc := runQ_body (M := mem0) (n := n) (ccQ_used (self := (runQ E mem0 [] n).1) (n := n + 1) hq)
    obtain ⟨v, m', h1, h2, h3⟩ := writeQ_first (n := n + 2) s hcc hq hs
    exact ⟨v, m', runQ_body h1, by simpa using h2, h3⟩
  · have hqm := lt_of_at hq
    have hbm := lt_of_at hbb
    have hcc := runQ_body (M := mem0) (n := n) (ccQ_used (self := (runQ E mem0 [] n).1) (n := n + 1) hq)
    have hll : (l.map (Value.int .u8)).length = l.length := by simp
    have hbl := bytesI_len s
    by_cases h0 : s.data.toList.length = 0
    · have hnil : bytesI s = [] := List.eq_nil_of_length_eq_zero (by omega)
      have hsrc := src_string (m := m) s
      rw [h0, hnil] at hsrc
      have happ := app_none (xT := 9) Try.underlying9 rfl hsrc hbb
      rw [hll] at happ
      have hst := store35 hq (o := 1) (show 1 < 2 by omega) (some ⟨b, 0, none⟩) l.length l.length
      obtain ⟨v, hv⟩ := body65 (n := n + 2) hcc (cellAt_row hq 1) happ hst
      refine ⟨v, _, runQ_body hv, .inr (.inr ⟨b, hqb, ?_, ?_, by simp [hne]⟩), fun k hk => ?_⟩
      · rw [List.getElem?_set_self hqm, hnil]
        simp
      · rw [List.getElem?_set_ne (by omega), hnil]
        simpa using hbb
      · rw [List.getElem?_set_ne (by omega)]
    · have happ := app_used (xT := 9) Try.underlying9 rfl (src_string (m := m) s) (all_bytes _) h0 (by rw [hll]; omega) hbb
      rw [hll] at happ
      have h2 : (m.set b .dead ++ [.row false 5 (l.map (.int .u8) ++ (bytesI s).map (.int .u8))])[q]? = some (Blk.row false 76 [.pointer (some ⟨q, 0, none⟩), .slice (some ⟨b, 0, none⟩) l.length l.length]) := by
        rw [List.getElem?_append_left (by simp; omega), List.getElem?_set_ne (by omega)]
        exact hq
      have hst := store35 h2 (o := 1) (show 1 < 2 by omega) (some ⟨m.length, 0, none⟩) (l.length + s.data.toList.length) (l.length + s.data.toList.length)
      obtain ⟨v, hv⟩ := body65 (n := n + 2) hcc (cellAt_row hq 1) happ hst
      refine ⟨v, _, runQ_body hv, .inr (.inr ⟨m.length, by omega, ?_, ?_, by simp [hne]⟩), fun k hk => ?_⟩
      · rw [List.getElem?_set_self (by simp; omega)]
        simp [hbl]
      · rw [List.getElem?_set_ne (by omega)]
        rw [List.getElem?_append_right (by simp)]
        simp
      · rw [List.getElem?_set_ne (by omega), List.getElem?_append_left (by simp; omega), List.getElem?_set_ne (by omega)]
theorem lenU0 (ty : TypeId) : apC1 E.P .len #[48] ty (.slice none 0 0) = some (.int .i64 0) := by kernel_rfl
theorem sdQ (q : Nat) (pos : String) (af : Array Edge) : apure E.P [.pointer (some ⟨q, 0, none⟩), undef, .string ⟨#[]⟩, .pointer (some ⟨q, 0, none⟩), .pointer (some ⟨q, 0, none⟩), .pointer (some ⟨q, 1, none⟩), .slice none 0 0, undef, undef, undef, undef, undef, undef, undef] { dst := some 7, op := .call { callee := .builtin .unsafeSliceData, args := #[.tmp 6], argTypes := #[48] }, type := 94, pos := pos, after := af, guard := none } = some (.pointer none) := by kernel_rfl
theorem lnQ (q : Nat) (pos : String) (af : Array Edge) : apure E.P [.pointer (some ⟨q, 0, none⟩), undef, .string ⟨#[]⟩, .pointer (some ⟨q, 0, none⟩), .pointer (some ⟨q, 0, none⟩), .pointer (some ⟨q, 1, none⟩), .slice none 0 0, .pointer none, .pointer (some ⟨q, 0, none⟩), .pointer (some ⟨q, 0, none⟩), .pointer (some ⟨q, 1, none⟩), .slice none 0 0, undef, undef] { dst := some 12, op := .call { callee := .builtin .len, args := #[.tmp 11], argTypes := #[48] }, type := 3, pos := pos, after := af, guard := none } = some (.int .i64 0) := by kernel_rfl
theorem usStringQ {b : Nat} {l : List Int} (hb : m[b]? = some (.row false 5 (l.map (.int .u8)))) (h0 : l ≠ []) (hl : l.length ≤ 1000000000) :
    ausString E.P 94 (.pointer (some ⟨b, 0, none⟩)) (.int .i64 (l.length : Nat)) m = some (.string ⟨(l.map fun n => UInt8.ofNat n.toNat).toArray⟩, m.set b (.row true 5 (l.map (.int .u8)))) := by
  have hlen : 0 < l.length := List.length_pos_iff.2 h0
  unfold ausString
  simp only [hb, show E.P.underlying 94 = some (.pointer 5) from Try.underlying94]
  rw [if_neg (by omega), if_pos (by omega)]
  have hc : E.P.cellsOf 5 = 1 := by kernel_rfl
  have hlies : liesAt E.P E.P.depth 5 ((l.map (Value.int .u8)).length / E.P.cellsOf 5) 0 5 ((l.length : Nat) : Int).toNat = true := Lib.liesAt_bytes hc _ _ (by rw [hc]; simp)
  rw [if_pos ⟨hlies, by simp⟩]
  have ht : ((l.map (Value.int .u8)).drop 0).take ((l.length : Nat) : Int).toNat = l.map (.int .u8) := by
    rw [List.drop_zero, List.take_of_length_le (by simp)]
  rw [ht, bytesOf_map]

theorem stringQ {l : List Int} (hb : BufQ m q l) (hl : l.length ≤ 1000000000) :
    ∃ m', abody E self n 36 [.pointer (some ⟨q, 0, none⟩)] m = some (.string ⟨(l.map fun n => UInt8.ofNat n.toNat).toArray⟩, m') := by
  rw [abody_eqN (by kernel_rfl) Try.func36 body64 (by kernel_rfl)]
  rw [show ([Value.pointer (some ⟨q, 0, none⟩)] ++ List.replicate (Try.f36.ntmps - [Value.pointer (some ⟨q, 0, none⟩)].length) undef) = [.pointer (some ⟨q, 0, none⟩), undef, undef, undef, undef, undef, undef, undef, undef, undef, undef, undef, undef, undef] from rfl]
  have e3 : earlyB E.P E.wr ops64 3 = false := by kernel_rfl
  have e4 : earlyB E.P E.wr ops64 4 = false := by kernel_rfl
  have e8 : earlyB E.P E.wr ops64 8 = false := by kernel_rfl
  have l3 : looseB E.P E.wr ops64 3 = false := by kernel_rfl
  have l4 : looseB E.P E.wr ops64 4 = false := by kernel_rfl
  have l8 : looseB E.P E.wr ops64 8 = false := by kernel_rfl
  have hops : ops64.toList = ops64.toList := rfl
  conv at hops => rhs; simp only [ops64, Try.f36]
  have hopsa : ops64a.toList = ops64a.toList := rfl
  conv at hopsa => rhs; simp only [ops64a, Try.f36]
  have none_case : cellAt (m.map sealed) q 1 = some (.slice none 0 0) → l = [] → ∃ m', finish E.P Try.f36 (acodeN E self n (.seq (.region 0 ops64a false) (.seq (.region 1 ops64 true) .ret)) [.pointer (some ⟨q, 0, none⟩), undef, undef, undef, undef, undef, undef, undef, undef, undef, undef, undef, undef, undef] m) = some (.string ⟨(l.map fun n => UInt8.ofNat n.toNat).toArray⟩, m') := by
    intro hc hnil
    subst hnil
    simp only [show E.sr 1 ops64 = false from by kernel_rfl, acodeN, aopsN, hopsa, hops, adrawN, agd, cls, astep, aop, afloat, ev, nth_zero, nth_succ, aput, setAt_zero, setAt_succ, Option.map_some, fa86_1, load35, hc, e3, e4, e8, l3, l4, l8, abuiltin, List.map_cons, List.map_nil, Nat.zero_add, Bool.not_false, Bool.or_true, Bool.true_or, if_true, List.length_map, alen, show E.P.underlying 48 = some (.slice 5) from Try.underlying48, ausString, lenU0, sdQ, lnQ]
    exact ⟨_, rfl⟩
  rcases hb with ⟨hnil, hq⟩ | ⟨hnil, hq⟩ | ⟨b, hqb, hq, hbb, hne⟩
  · exact none_case (cellAt_row (show (m.map sealed)[q]? = some (.row true 76 [.pointer none, .slice none 0 0]) by rw [List.getElem?_map, hq]; rfl) 1) hnil
  · exact none_case (cellAt_row (show (m.map sealed)[q]? = some (.row true 76 [.pointer (some ⟨q, 0, none⟩), .slice none 0 0]) by rw [List.getElem?_map, hq]; rfl) 1) hnil
  · have hqs : (m.map sealed)[q]? = some (.row true 76 [.pointer (some ⟨q, 0, none⟩), .slice (some ⟨b, 0, none⟩) l.length l.length]) := by
      rw [List.getElem?_map, hq]
      rfl
    have hc : cellAt (m.map sealed) q 1 = some (.slice (some ⟨b, 0, none⟩) l.length l.length) := cellAt_row hqs 1
    have hl0 : ¬ l.length = 0 := fun h => hne (List.eq_nil_of_length_eq_zero h)
    simp only [show E.sr 1 ops64 = false from by kernel_rfl, acodeN, aopsN, hopsa, hops, adrawN, agd, cls, astep, aop, afloat, ev, nth_zero, nth_succ, aput, setAt_zero, setAt_succ, Option.map_some, fa86_1, load35, hc, e3, e4, e8, l3, l4, l8, abuiltin, List.map_cons, List.map_nil, Nat.zero_add, Bool.not_false, Bool.or_true, Bool.true_or, if_true, List.length_map, if_neg hl0, alen, show E.P.underlying 48 = some (.slice 5) from Try.underlying48, usStringQ hbb hne hl]
    exact ⟨_, rfl⟩
end
end Go.Am.Seat

/-
  Hex on the abstract machine (own work).
-/
set_option linter.unusedSimpArgs false
set_option linter.unusedVariables false
namespace Go.Am.Seat
open Go.Proofs Go.Am
set_option maxRecDepth 100000

noncomputable def rbStr_0 : Array Oper := match Try.f36.body with
  | some (.seq (.region _ o _) _) => o
  | _ => #[]
noncomputable def rbStr_1 : Array Oper := match Try.f36.body with
  | some (.seq _ (.seq (.region _ o _) _)) => o
  | _ => #[]
theorem dbStr_1 {self : Self} {B : Nat} {T : List Value} {m : Mem} {lb : List (Nat × Nat)} {ls : Bool} : adrawN E self rbStr_1 B rbStr_1.toList 0 T m lb ls = adrawT E self rbStr_1 B rbStr_1.toList [(false, false), (false, false), (false, false), (false, false), (false, false), (false, false), (false, false), (false, false), (false, false), (false, false), (false, false), (false, false)] 0 T m lb ls := adraw_tab (by kernel_rfl)
theorem sbStr_1 : E.sr 1 rbStr_1 = false := by kernel_rfl
theorem bodybStr : Try.f36.body = some (.seq (.region 0 rbStr_0 false) (.seq (.region 1 rbStr_1 true) .ret)) := rfl
-- ntmps 14

section
variable {self : Self} {nf q n c : Nat} {m m1 m2 : Mem} {l : List Int}

theorem Grow_body (hcc : ainv E self 52 [.pointer (some ⟨q, 0, none⟩)] m = some (.tuple ⟨[]⟩, m1)) (hq : m1[q]? = some (.row false 76 [.pointer (some ⟨q, 0, none⟩), .slice none 0 0]))
    (hn : 0 < n) (hg : ainv E self 53 [.pointer (some ⟨q, 0, none⟩), .int .i64 (n : Nat)] m1 = some (.tuple ⟨[]⟩, m2)) :
    abody E self nf 34 [.pointer (some ⟨q, 0, none⟩), .int .i64 (n : Nat)] m = some (.tuple ⟨[]⟩, m2) := by
  rw [abody_eqF (by kernel_rfl) Try.func34 bodybGrow (by kernel_rfl) (Nat.le_of_ble_eq_true rfl)]
  rw [show Try.f34.ntmps = 25 from rfl]
  have hqs : (m1.map sealed)[q]? = some (.row true 76 [.pointer (some ⟨q, 0, none⟩), .slice none 0 0]) := by
    rw [List.getElem?_map, hq]
    rfl
  have hc : cellAt (m1.map sealed) q 1 = some (.slice none 0 0) := cellAt_row hqs 1
  have h1 : decide (((n : Nat) : Int) < 0) = false := decide_eq_false (by omega)
  have h2 : decide ((0 : Int) < ((n : Nat) : Int)) = true := decide_eq_true (by omega)
  have hdbGrow_3 := @dbGrow_3
  simp only [rbGrow_3, Try.f34] at hdbGrow_3
  simp only [hdbGrow_3, ↓sbGrow_3, rbGrow_0, rbGrow_1, rbGrow_2, rbGrow_3, rbGrow_4, Try.f34, List.append_eq, List.cons_append, List.nil_append, apure_call1, apure_call2, apure_call3, bft, btf, acodeN, List.getElem?_toArray, List.getElem?_cons_zero, List.getElem?_cons_succ, aopsN, adrawT, agd, cls, astep, aop, afloat, ev, nth_lst, get_lst, aput, setAt_lst, upd_at, init_zero, init_succ, init_nil, Nat.reduceLT, Nat.reduceEqDiff, reduceIte, abuiltin, alen, Option.map_some, Option.map_none, orElse_some, apure_add, apure_eql, apure_neq, List.map_cons, List.map_nil, List.all_cons, List.all_nil, lit2, lit1, lit0, List.isEmpty_nil, Bool.and_self, Bool.and_true, Bool.true_and, Bool.false_and, Bool.and_false, Bool.not_true, Bool.not_false, Bool.or_true, Bool.true_or, Bool.false_or, Bool.or_false, Bool.false_eq_true, if_true, if_false, List.length_map, beq_self_eq_true, und3, und4, und5, und9, callcc, callgrow, hcc, hg, lss64, h1, h2, fa86_1, load35, hc, cap_nil, len_nil, und35, sub64', sub00, Nat.zero_add, finish, ares, aresL, ares1]

theorem usStringC {b : Nat} {cs : List Value} (hb : m[b]? = some (.row false 5 cs)) (htk : cs.take l.length = l.map (.int .u8)) (hlc : l.length ≤ cs.length) (h0 : l ≠ []) (hl : l.length ≤ 10000000) :
    ausString E.P 94 (.pointer (some ⟨b, 0, none⟩)) (.int .i64 (l.length : Nat)) m = some (.string (bytesOfL (l.map fun n => UInt8.ofNat n.toNat)), m.set b (.row true 5 cs)) := by
  have hlen : 0 < l.length := List.length_pos_iff.2 h0
  unfold ausString
  simp only [hb, show E.P.underlying 94 = some (.pointer 5) from Try.underlying94]
  rw [if_neg (by omega), if_pos (by omega)]
  have hc : E.P.cellsOf 5 = 1 := by kernel_rfl
  have hlies : liesAt E.P E.P.depth 5 (cs.length / E.P.cellsOf 5) 0 5 ((l.length : Nat) : Int).toNat = true := Lib.liesAt_bytes hc _ _ (by rw [hc, Nat.div_one, Int.toNat_natCast]; omega)
  rw [if_pos ⟨hlies, by omega⟩]
  have ht : (cs.drop 0).take ((l.length : Nat) : Int).toNat = l.map (.int .u8) := by
    rw [List.drop_zero, Int.toNat_natCast, htk]
  rw [ht, bytesOf_map]
  rfl

theorem String_body (hb : BufC m q l c) (hne : l ≠ []) (hl : l.length ≤ 10000000) :
    ∃ m', abody E self nf 36 [.pointer (some ⟨q, 0, none⟩)] m = some (.string (bytesOfL (l.map fun n => UInt8.ofNat n.toNat)), m') := by
  rw [abody_eqF (by kernel_rfl) Try.func36 bodybStr (by kernel_rfl) (Nat.le_of_ble_eq_true rfl)]
  rw [show Try.f36.ntmps = 14 from rfl]
  obtain ⟨b, cs, hqb, hq, hbb, hc, htk, hlc⟩ := hb
  have hqs : (m.map sealed)[q]? = some (.row true 76 [.pointer (some ⟨q, 0, none⟩), .slice (some ⟨b, 0, none⟩) l.length c]) := by
    rw [List.getElem?_map, hq]
    rfl
  have hcell : cellAt (m.map sealed) q 1 = some (.slice (some ⟨b, 0, none⟩) l.length c) := cellAt_row hqs 1
  have hc0 : ¬ c = 0 := fun h => hne (List.eq_nil_of_length_eq_zero (by omega))
  have hus := usStringC hbb htk (by omega) hne hl
  have hdbStr_1 := @dbStr_1
  simp only [rbStr_1, Try.f36] at hdbStr_1
  simp only [hdbStr_1, ↓sbStr_1, rbStr_0, rbStr_1, Try.f36, List.append_eq, List.cons_append, List.nil_append, apure_call1, apure_call2, apure_call3, bft, btf, acodeN, List.getElem?_toArray, List.getElem?_cons_zero, List.getElem?_cons_succ, aopsN, adrawT, agd, cls, astep, aop, afloat, ev, nth_lst, get_lst, aput, setAt_lst, upd_at, init_zero, init_succ, init_nil, Nat.reduceLT, Nat.reduceEqDiff, reduceIte, abuiltin, alen, Option.map_some, Option.map_none, orElse_some, apure_add, apure_eql, apure_neq, List.map_cons, List.map_nil, List.all_cons, List.all_nil, lit2, lit1, lit0, List.isEmpty_nil, Bool.and_self, Bool.and_true, Bool.true_and, Bool.false_and, Bool.and_false, Bool.not_true, Bool.not_false, Bool.or_true, Bool.true_or, Bool.false_or, Bool.or_false, Bool.false_eq_true, if_true, if_false, List.length_map, beq_self_eq_true, und3, und4, und5, und9, fa86_1, load35, hcell, und35, hc0, hus, Nat.zero_add, finish, ares, aresL, ares1]
  exact ⟨_, rfl⟩
end

section
variable {K : List Fact} {n nf : Nat} {m : Mem} {s : ByteArray}

theorem bytesI_hex (b : UInt8) : UInt8.ofNat ((((b).toNat : Nat) : Int)).toNat = b := by simp

end
end Go.Am.Seat

/-
  strings.Builder with room: what is written fits (own work).
-/
set_option linter.unusedSimpArgs false
set_option linter.unusedVariables false
namespace Go.Am.Seat
open Go.Proofs Go.Am
set_option maxRecDepth 100000

section
variable {self : Self} {nf q n : Nat} {m m1 : Mem}

theorem growR_body (hq : m[q]? = some (.row false 76 [.pointer (some ⟨q, 0, none⟩), .slice none 0 0])) (hn : 0 < n) (hn' : n ≤ 1000000000) :
    ∃ m', abody E self nf 53 [.pointer (some ⟨q, 0, none⟩), .int .i64 (n : Nat)] m = some (.tuple ⟨[]⟩, m') ∧ BufC m' q [] n ∧ Keeps m q m' := by
  rw [abody_eqF (by kernel_rfl) Try.func53 bodybgrow (by kernel_rfl) (Nat.le_of_ble_eq_true rfl)]
  rw [show Try.f53.ntmps = 30 from rfl]
  have hqm := lt_of_at hq
  have hqs : (m.map sealed)[q]? = some (.row true 76 [.pointer (some ⟨q, 0, none⟩), .slice none 0 0]) := by
    rw [List.getElem?_map, hq]
    rfl
  have hc : cellAt (m.map sealed) q 1 = some (.slice none 0 0) := cellAt_row hqs 1
  have hw0 : wrapF .i64 ((0 : Int) + ((n : Nat) : Int)) = ((n : Nat) : Int) := by rw [wrap_i64 (by omega) (by omega)]; omega
  have hx : aext (.noZero 5) [.int .i64 (n : Nat)] m = some (.slice (some ⟨m.length, 0, none⟩) n n, m ++ [.row false 5 (List.replicate n junk)]) := by
    unfold aext
    simp only
    rw [if_pos (by omega)]
    simp
  have hq2 : ((m ++ [Blk.row false 5 (List.replicate n junk)]).map sealed)[q]? = some (.row true 76 [.pointer (some ⟨q, 0, none⟩), .slice none 0 0]) := by
    rw [List.getElem?_map, List.getElem?_append_left hqm, hq]
    rfl
  have hc2 : cellAt ((m ++ [Blk.row false 5 (List.replicate n junk)]).map sealed) q 1 = some (.slice none 0 0) := cellAt_row hq2 1
  have hb2 : ((m ++ [Blk.row false 5 (List.replicate n junk)]).map sealed)[m.length]? = some (.row true 5 (List.replicate n junk)) := by
    rw [List.getElem?_map, List.getElem?_append_right (Nat.le_refl _)]
    simp [sealed]
  have hsl := slice35 hb2 hn
  have hb3 : (m ++ [Blk.row false 5 (List.replicate n junk)])[m.length]? = some (.row false 5 (List.replicate n junk)) := by simp
  have hq3 : (m ++ [Blk.row false 5 (List.replicate n junk)])[q]? = some (.row false 76 [.pointer (some ⟨q, 0, none⟩), .slice none 0 0]) := by
    rw [List.getElem?_append_left hqm]; exact hq
  have hc3 : cellAt (m ++ [Blk.row false 5 (List.replicate n junk)]) q 1 = some (.slice none 0 0) := cellAt_row hq3 1
  have hcp := copy_none (n := n) hb3
  have hst := store35 hq3 (o := 1) (show 1 < 2 by omega) (some ⟨m.length, 0, none⟩) 0 n
  have hdq : decide (q < m.length) = true := decide_eq_true hqm
  have hdbgrow_0 := @dbgrow_0
  simp only [rbgrow_0, Try.f53] at hdbgrow_0
  simp only [hdbgrow_0, ↓sbgrow_0, rbgrow_0, rbgrow_1, rbgrow_2, Try.f53, List.append_eq, List.cons_append, List.nil_append, apure_call1, apure_call2, apure_call3, bft, btf, acodeN, List.getElem?_toArray, List.getElem?_cons_zero, List.getElem?_cons_succ, aopsN, adrawT, agd, cls, astep, aop, afloat, ev, nth_lst, get_lst, aput, setAt_lst, upd_at, init_zero, init_succ, init_nil, Nat.reduceLT, Nat.reduceEqDiff, reduceIte, abuiltin, alen, Option.map_some, Option.map_none, orElse_some, apure_add, apure_eql, apure_neq, List.map_cons, List.map_nil, List.all_cons, List.all_nil, lit2, lit1, lit0, List.isEmpty_nil, Bool.and_self, Bool.and_true, Bool.true_and, Bool.false_and, Bool.and_false, Bool.not_true, Bool.not_false, Bool.or_true, Bool.true_or, Bool.false_or, Bool.or_false, Bool.false_eq_true, if_true, if_false, List.length_map, beq_self_eq_true, und3, und4, und5, und9, fa86_1, load35, hc, hc2, hc3, cap_nil, len_nil, und35, mul64', mul20, add64', hw0, addrT35, wr109, call109, ext109, hx, earlyOk, belowB, hdq, hsl, hcp, hst, Nat.zero_add, finish, ares, aresL, ares1]
  refine ⟨_, rfl, ⟨m.length, List.replicate n junk, hqm, ?_, ?_, by simp, rfl, by simp⟩, fun k hk => ?_⟩
  · rw [List.getElem?_set_self (by simp; omega)]
    rfl
  · rw [List.getElem?_set_ne (by omega)]
    exact hb3
  · rw [List.getElem?_set_ne (by omega), List.getElem?_append_left (by omega)]

theorem Grow_none (hcc : ainv E self 52 [.pointer (some ⟨q, 0, none⟩)] m = some (.tuple ⟨[]⟩, m1)) (hq : m1[q]? = some (.row false 76 [.pointer (some ⟨q, 0, none⟩), .slice none 0 0])) :
    abody E self nf 34 [.pointer (some ⟨q, 0, none⟩), .int .i64 0] m = some (.tuple ⟨[]⟩, m1) := by
  rw [abody_eqF (by kernel_rfl) Try.func34 bodybGrow (by kernel_rfl) (Nat.le_of_ble_eq_true rfl)]
  rw [show Try.f34.ntmps = 25 from rfl]
  have hqs : (m1.map sealed)[q]? = some (.row true 76 [.pointer (some ⟨q, 0, none⟩), .slice none 0 0]) := by
    rw [List.getElem?_map, hq]
    rfl
  have hc : cellAt (m1.map sealed) q 1 = some (.slice none 0 0) := cellAt_row hqs 1
  have h1 : decide ((0 : Int) < 0) = false := rfl
  have hdbGrow_3 := @dbGrow_3
  simp only [rbGrow_3, Try.f34] at hdbGrow_3
  simp only [hdbGrow_3, ↓sbGrow_3, rbGrow_0, rbGrow_1, rbGrow_2, rbGrow_3, rbGrow_4, Try.f34, List.append_eq, List.cons_append, List.nil_append, apure_call1, apure_call2, apure_call3, bft, btf, acodeN, List.getElem?_toArray, List.getElem?_cons_zero, List.getElem?_cons_succ, aopsN, adrawT, agd, cls, astep, aop, afloat, ev, nth_lst, get_lst, aput, setAt_lst, upd_at, init_zero, init_succ, init_nil, Nat.reduceLT, Nat.reduceEqDiff, reduceIte, abuiltin, alen, Option.map_some, Option.map_none, orElse_some, apure_add, apure_eql, apure_neq, List.map_cons, List.map_nil, List.all_cons, List.all_nil, lit2, lit1, lit0, List.isEmpty_nil, Bool.and_self, Bool.and_true, Bool.true_and, Bool.false_and, Bool.and_false, Bool.not_true, Bool.not_false, Bool.or_true, Bool.true_or, Bool.false_or, Bool.or_false, Bool.false_eq_true, if_true, if_false, List.length_map, beq_self_eq_true, und3, und4, und5, und9, callcc, callgrow, hcc, lss64, h1, fa86_1, load35, hc, cap_nil, len_nil, und35, sub64', sub00, Nat.zero_add, finish, ares, aresL, ares1]

theorem app_room {l : List Int} {s : ByteArray} {b c : Nat} {cs : List Value} (hb : m[b]? = some (.row false 5 cs)) (hl : l.length + s.data.toList.length ≤ c) (hc : cs.length = c) :
    aappend E.P 48 9 (.slice (some ⟨b, 0, none⟩) l.length c) (.string s) m = some (.slice (some ⟨b, 0, none⟩) (l.length + s.data.toList.length) c, m.set b (.row false 5 (lay cs l.length ((bytesI s).map (.int .u8))))) := by
  obtain ⟨i, z, h1, h2, h3, h4, h5⟩ := info5
  unfold aappend
  simp only [und35, show E.P.underlying 9 = some .string from Try.underlying9, h1, h2, h3, src_string (m := m) s, isIntD, h4, h5, hb, all_bytes]
  rw [if_neg (by simp), if_pos hl, if_pos (by simp only [List.length_map, bytesI_len]; omega)]
  simp
theorem lay_eq (cs : List Value) (o : Nat) (l : List Value) (h : o + l.length ≤ cs.length) : lay cs o l = cs.take o ++ (l ++ cs.drop (o + l.length)) := by
  unfold lay
  split
  · rename_i v
    simp only [List.length_singleton] at h ⊢
    rw [List.set_eq_take_append_cons_drop, if_pos (by omega)]
    rfl
  · rfl
end

/-- A Builder with room for so many bytes. -/
def BufR (m : Mem) (q : Nat) (l : List Int) (c : Nat) : Prop := (c = 0 ∧ l = [] ∧ BufQ m q []) ∨ (0 < c ∧ BufC m q l c)

theorem growR {n k q : Nat} {m : Mem} (hq : m[q]? = some (.row false 76 [.pointer none, .slice none 0 0])) (hk : k ≤ 1000000000) :
    ∃ m', (runQ E mem0 [] (n + 3)).1 34 [.pointer (some ⟨q, 0, none⟩), .int .i64 (k : Nat)] m = some (.tuple ⟨[]⟩, m') ∧ BufR m' q [] k ∧ Keeps m q m' := by
  have hqm := lt_of_at hq
  have hcc := runQ_body (M := mem0) (n := n + 1) (ccQ_fresh (self := (runQ E mem0 [] (n + 1)).1) (n := n + 2) hq)
  have hccA := (ainv_wr (self := (runQ E mem0 [] (n + 2)).1) (g := 52) (by kernel_rfl) rfl).trans hcc
  have hq1 : (m.set q (.row false 76 [.pointer (some ⟨q, 0, none⟩), .slice none 0 0]))[q]? = some (.row false 76 [.pointer (some ⟨q, 0, none⟩), .slice none 0 0]) := by simp [hqm]
  by_cases h0 : k = 0
  · subst h0
    have hb := Grow_none (nf := n + 3) hccA hq1
    exact ⟨_, runQ_body hb, .inl ⟨rfl, rfl, .inr (.inl ⟨rfl, hq1⟩)⟩, fun j hj => by rw [List.getElem?_set_ne (by omega)]⟩
  · obtain ⟨m', h1, h2, h3⟩ := growR_body (self := (runQ E mem0 [] (n + 1)).1) (nf := n + 2) hq1 (by omega) hk
    have hgA := (ainv_wr (self := (runQ E mem0 [] (n + 2)).1) (g := 53) (by kernel_rfl) rfl).trans (runQ_body h1)
    have hb := Grow_body (nf := n + 3) hccA hq1 (by omega) hgA
    exact ⟨_, runQ_body hb, .inr ⟨by omega, h2⟩, fun j hj => by rw [h3 j hj, List.getElem?_set_ne (by omega)]⟩

theorem writeR {n q c : Nat} {m : Mem} {l : List Int} (s : ByteArray) (hb : BufR m q l c) (hl : l.length + s.data.toList.length ≤ c) (hc : c ≤ 1000000000) :
    ∃ v m', (runQ E mem0 [] (n + 2)).1 35 [.pointer (some ⟨q, 0, none⟩), .string s] m = some (v, m') ∧ BufR m' q (l ++ bytesI s) c ∧ Keeps m q m' := by
  rcases hb with ⟨rfl, rfl, hb⟩ | ⟨h0, b, cs, hqb, hq, hbb, hcl, htk, hlc⟩
  · obtain ⟨v, m', h1, h2, h3⟩ := writeQ (n := n) s hb (by simp) (by omega)
    have hz : bytesI s = [] := List.eq_nil_of_length_eq_zero (by rw [bytesI_len]; omega)
    rw [hz] at h2 ⊢
    exact ⟨v, m', h1, .inl ⟨rfl, rfl, h2⟩, h3⟩
  · have hqm := lt_of_at hq
    have hbm := lt_of_at hbb
    have hcc := runQ_body (M := mem0) (n := n) (ccQ_used (self := (runQ E mem0 [] n).1) (n := n + 1) hq)
    have happ := app_room hbb hl hcl
    have h2 : (m.set b (.row false 5 (lay cs l.length ((bytesI s).map (.int .u8)))))[q]? = some (Blk.row false 76 [.pointer (some ⟨q, 0, none⟩), .slice (some ⟨b, 0, none⟩) l.length c]) := by
      rw [List.getElem?_set_ne (by omega)]
      exact hq
    have hst := store35 h2 (o := 1) (show 1 < 2 by omega) (some ⟨b, 0, none⟩) (l.length + s.data.toList.length) c
    obtain ⟨v, hv⟩ := body65 (n := n + 2) hcc (cellAt_row hq 1) happ hst
    have hbl := bytesI_len s
    have hlay := lay_eq cs l.length ((bytesI s).map (.int .u8)) (by simp only [List.length_map]; omega)
    refine ⟨v, _, runQ_body hv, .inr ⟨h0, b, lay cs l.length ((bytesI s).map (.int .u8)), hqb, ?_, ?_, ?_, ?_, by rw [List.length_append, hbl]; exact hl⟩, fun j hj => ?_⟩
    · rw [List.getElem?_set_self (by simp; omega)]
      simp [hbl]
    · rw [List.getElem?_set_ne (by omega), List.getElem?_set_self (by omega)]
    · rw [hlay]
      simp only [List.length_append, List.length_take, List.length_map, List.length_drop]
      omega
    · rw [hlay, List.length_append, List.take_append, List.length_take, Nat.min_eq_left (by omega), List.take_take, Nat.min_eq_right (by omega), htk, show l.length + (bytesI s).length - l.length = (bytesI s).length by omega, List.take_append_of_le_length (by simp), List.take_of_length_le (by simp), List.map_append]
    · rw [List.getElem?_set_ne (by omega), List.getElem?_set_ne (by omega)]

theorem stringR {self : Self} {nf q c : Nat} {m : Mem} {l : List Int} (hb : BufR m q l c) (hl : l.length = c) (hc : c ≤ 1000000000) :
    ∃ m', abody E self nf 36 [.pointer (some ⟨q, 0, none⟩)] m = some (.string ⟨(l.map fun n => UInt8.ofNat n.toNat).toArray⟩, m') := by
  rcases hb with ⟨rfl, rfl, hb⟩ | ⟨h0, b, cs, hqb, hq, hbb, hcl, htk, hlc⟩
  · exact stringQ hb (by simp)
  · subst hl
    rw [List.take_of_length_le (by omega)] at htk
    subst htk
    exact stringQ (.inr (.inr ⟨b, hqb, hq, hbb, fun h => by rw [h] at h0; simp at h0⟩)) hc
end Go.Am.Seat
