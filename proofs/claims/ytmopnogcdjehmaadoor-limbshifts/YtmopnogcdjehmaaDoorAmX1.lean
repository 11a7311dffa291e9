/-
  An array of eight words as a law's argument (own work; nothing of a dump).
-/
import Derived.ChangeShapes
import Derived.Test.YtmopnogcdjehmaaDoorAm1
set_option linter.unusedSimpArgs false
set_option linter.unusedVariables false
namespace Go.Am
variable {H : Type} {enc : TypeId × Value → H} {P : Program} {W : World} {base : Nat} {spare : Nat → Bool} {held : Bool}

theorem open_words {r : Reach} {b0 : Nat} {t e : TypeId} {v : Value} {d : DataW H} {ps : List MemPlace} (ht : P.underlying t = some (.array 8 e)) (he : P.underlying e = some (.int .u64)) (hc : P.cellsOf t = 8) (hce : P.cellsOf e = 1)
    (hval : Value.okWide P W r b0 t v) (hd : DataW.Trod enc P W base spare held t v d ps) :
    ∃ l : List Int, l.length = 8 ∧ v = .agg ⟨l.map (.int .u64)⟩ ∧ d = .agg (l.map fun n => .lit (.int .u64 n)) ∧ ps = [] ∧ ∀ n, n ∈ l → (Lit.int .u64 n).wf = true := by
  unfold Value.okWide at hval
  simp only [ht] at hval
  obtain ⟨⟨cs⟩, rfl, hsz, _⟩ := hval
  have hlen : cs.length = 8 := by rw [hc] at hsz; simpa using hsz
  obtain ⟨fuel, hf⟩ := hd
  cases fuel with
  | zero => simp [DataW.trod] at hf
  | succ fuel =>
    unfold DataW.trod at hf
    simp only [ht, Value.cells] at hf
    match cs, hlen with
    | [c0, c1, c2, c3, c4, c5, c6, c7], _ =>
      simp only [List.length_cons, List.length_nil, hc, hce, if_true, show List.range 8 = [0, 1, 2, 3, 4, 5, 6, 7] from rfl, List.mapM_cons, List.mapM_nil, Nat.mul_one, List.drop_zero, List.drop_succ_cons, List.take_succ_cons, List.take_zero, Option.pure_def, Option.bind_eq_bind, Nat.zero_add, Nat.reduceAdd] at hf
      obtain ⟨xs, hx, hd⟩ := Option.map_eq_some_iff.1 hf
      obtain ⟨x0, h0, a0⟩ := Option.bind_eq_some_iff.1 hx
      obtain ⟨y0, b0, e0⟩ := Option.bind_eq_some_iff.1 a0
      obtain ⟨x1, h1, a1⟩ := Option.bind_eq_some_iff.1 b0
      obtain ⟨y1, b1, e1⟩ := Option.bind_eq_some_iff.1 a1
      obtain ⟨x2, h2, a2⟩ := Option.bind_eq_some_iff.1 b1
      obtain ⟨y2, b2, e2⟩ := Option.bind_eq_some_iff.1 a2
      obtain ⟨x3, h3, a3⟩ := Option.bind_eq_some_iff.1 b2
      obtain ⟨y3, b3, e3⟩ := Option.bind_eq_some_iff.1 a3
      obtain ⟨x4, h4, a4⟩ := Option.bind_eq_some_iff.1 b3
      obtain ⟨y4, b4, e4⟩ := Option.bind_eq_some_iff.1 a4
      obtain ⟨x5, h5, a5⟩ := Option.bind_eq_some_iff.1 b4
      obtain ⟨y5, b5, e5⟩ := Option.bind_eq_some_iff.1 a5
      obtain ⟨x6, h6, a6⟩ := Option.bind_eq_some_iff.1 b5
      obtain ⟨y6, b6, e6⟩ := Option.bind_eq_some_iff.1 a6
      obtain ⟨x7, h7, a7⟩ := Option.bind_eq_some_iff.1 b6
      obtain ⟨y7, b7, e7⟩ := Option.bind_eq_some_iff.1 a7
      obtain ⟨n0, g0, rfl, w0⟩ := DataW.trod_int he h0
      obtain ⟨n1, g1, rfl, w1⟩ := DataW.trod_int he h1
      obtain ⟨n2, g2, rfl, w2⟩ := DataW.trod_int he h2
      obtain ⟨n3, g3, rfl, w3⟩ := DataW.trod_int he h3
      obtain ⟨n4, g4, rfl, w4⟩ := DataW.trod_int he h4
      obtain ⟨n5, g5, rfl, w5⟩ := DataW.trod_int he h5
      obtain ⟨n6, g6, rfl, w6⟩ := DataW.trod_int he h6
      obtain ⟨n7, g7, rfl, w7⟩ := DataW.trod_int he h7
      cases g0; cases g1; cases g2; cases g3; cases g4; cases g5; cases g6; cases g7
      simp only [Option.some.injEq] at b7 e0 e1 e2 e3 e4 e5 e6 e7
      subst b7 e7 e6 e5 e4 e3 e2 e1 e0
      simp only [List.map_cons, List.map_nil, List.flatMap_cons, List.flatMap_nil, List.append_nil, Prod.mk.injEq] at hd
      obtain ⟨rfl, rfl⟩ := hd
      refine ⟨[n0, n1, n2, n3, n4, n5, n6, n7], rfl, rfl, rfl, rfl, fun n hn => ?_⟩
      simp only [List.mem_cons, List.not_mem_nil, or_false] at hn
      rcases hn with rfl | rfl | rfl | rfl | rfl | rfl | rfl | rfl <;> assumption

theorem shut_words {t e : TypeId} {l : List Int} (ht : P.underlying t = some (.array 8 e)) (he : P.underlying e = some (.int .u64)) (hc : P.cellsOf t = 8) (hce : P.cellsOf e = 1) (hl : l.length = 8) (hw : ∀ n, n ∈ l → (Lit.int .u64 n).wf = true) :
    DataW.Trod enc P W base spare held t (.agg ⟨l.map (.int .u64)⟩) (.agg (l.map fun n => .lit (.int .u64 n))) [] := by
  match l, hl with
  | [n0, n1, n2, n3, n4, n5, n6, n7], _ =>
    refine ⟨2, ?_⟩
    have h : ∀ n, n ∈ [n0, n1, n2, n3, n4, n5, n6, n7] → DataW.trod enc P W base spare held 1 e [.int .u64 n] = some (.lit (.int .u64 n), []) := fun n hn => by
      simp only [DataW.trod, he, hw n hn, and_self, if_true]
    unfold DataW.trod
    simp only [ht, Value.cells, List.map_cons, List.map_nil, List.length_cons, List.length_nil, hc, hce, if_true, show List.range 8 = [0, 1, 2, 3, 4, 5, 6, 7] from rfl, List.mapM_cons, List.mapM_nil, Nat.mul_one, List.drop_zero, List.drop_succ_cons, List.take_succ_cons, List.take_zero, Option.pure_def, Option.bind_eq_bind, Nat.zero_add, Nat.reduceAdd]
    rw [h n0 (by simp), h n1 (by simp), h n2 (by simp), h n3 (by simp), h n4 (by simp), h n5 (by simp), h n6 (by simp), h n7 (by simp)]
    rfl
end Go.Am
