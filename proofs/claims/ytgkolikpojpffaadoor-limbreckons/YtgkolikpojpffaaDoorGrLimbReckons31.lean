/-
  Texts of my own, put together: LR0, M7, M8, LR1, LR2, KW9.
-/
import Derived.Test.YtgkolikpojpffaaDoorGrLimbReckons26
import Derived.Test.YtgkolikpojpffaaDoorGrLimbReckons30
import Derived.Test.YtgkolikpojpffaaDoorGrLimbReckons14
set_option linter.unusedSimpArgs false
set_option linter.unusedVariables false
set_option maxRecDepth 100000
namespace Go.Am.Seat
open Go.Proofs Go.Am
noncomputable def rlre_0 := opR Tryd.f3 [0]
noncomputable def rlre_1 := opR Tryd.f3 [1,0,0]
noncomputable def rlre_2 := opR Tryd.f3 [1,0,1,0,0]
noncomputable def rlre_3 := opR Tryd.f3 [1,1,0]
noncomputable def rlre_4 := opR Tryd.f3 [1,1,1,0]
noncomputable def rlre_5 := opR Tryd.f3 [1,1,1,1,0]
noncomputable def rlre_6 := opR Tryd.f3 [1,1,1,1,1,0,0]
theorem glre_6_6 {T : List Value} {dd : Option Tmp} {op : Op} {ty : TypeId} {pos : String} {af : Array Edge} {want : Bool} : agd rlre_6 T { dst := dd, op := op, type := ty, pos := pos, after := af, guard := some (6, want) } = gdAt T 41 want := agd_at (by kernel_rfl)
noncomputable def rlre_7 := opR Tryd.f3 [1,1,1,1,1,0,1,0,0]
noncomputable def rlre_8 := opR Tryd.f3 [1,1,1,1,1,1,0]
noncomputable def rlre_9 := opR Tryd.f3 [1,1,1,1,1,1,1,0]
noncomputable def rlre_10 := opR Tryd.f3 [1,1,1,1,1,1,1,1,0]
noncomputable def rlre_11 := opR Tryd.f3 [1,1,1,1,1,1,1,1,1,0,0]
noncomputable def rlre_12 := opR Tryd.f3 [1,1,1,1,1,1,1,1,1,0,1,0]
noncomputable def rlre_13 := opR Tryd.f3 [1,1,1,1,1,1,1,1,1,1,0,0]
theorem glre_13_8 {T : List Value} {dd : Option Tmp} {op : Op} {ty : TypeId} {pos : String} {af : Array Edge} {want : Bool} : agd rlre_13 T { dst := dd, op := op, type := ty, pos := pos, after := af, guard := some (8, want) } = gdAt T 79 want := agd_at (by kernel_rfl)
noncomputable def rlre_14 := opR Tryd.f3 [1,1,1,1,1,1,1,1,1,1,0,1,0,0]
noncomputable def rlre_15 := opR Tryd.f3 [1,1,1,1,1,1,1,1,1,1,1,0]
noncomputable def rlre_16 := opR Tryd.f3 [1,1,1,1,1,1,1,1,1,1,1,1,0]
noncomputable def rlre_17 := opR Tryd.f3 [1,1,1,1,1,1,1,1,1,1,1,1,1,0,0]
theorem glre_17_6 {T : List Value} {dd : Option Tmp} {op : Op} {ty : TypeId} {pos : String} {af : Array Edge} {want : Bool} : agd rlre_17 T { dst := dd, op := op, type := ty, pos := pos, after := af, guard := some (6, want) } = gdAt T 100 want := agd_at (by kernel_rfl)
noncomputable def rlre_18 := opR Tryd.f3 [1,1,1,1,1,1,1,1,1,1,1,1,1,0,1,0,0]
noncomputable def rlre_19 := opR Tryd.f3 [1,1,1,1,1,1,1,1,1,1,1,1,1,1,0,0]
theorem glre_19_7 {T : List Value} {dd : Option Tmp} {op : Op} {ty : TypeId} {pos : String} {af : Array Edge} {want : Bool} : agd rlre_19 T { dst := dd, op := op, type := ty, pos := pos, after := af, guard := some (7, want) } = gdAt T 114 want := agd_at (by kernel_rfl)
noncomputable def rlre_20 := opR Tryd.f3 [1,1,1,1,1,1,1,1,1,1,1,1,1,1,0,1,0,0]
noncomputable def rlre_21 := opR Tryd.f3 [1,1,1,1,1,1,1,1,1,1,1,1,1,1,1,0]
noncomputable def rlre_22 := opR Tryd.f3 [1,1,1,1,1,1,1,1,1,1,1,1,1,1,1,1,0,0]
noncomputable def rlre_23 := opR Tryd.f3 [1,1,1,1,1,1,1,1,1,1,1,1,1,1,1,1,0,1,0,0]
theorem glre_23_2 {T : List Value} {dd : Option Tmp} {op : Op} {ty : TypeId} {pos : String} {af : Array Edge} {want : Bool} : agd rlre_23 T { dst := dd, op := op, type := ty, pos := pos, after := af, guard := some (2, want) } = gdAt T 133 want := agd_at (by kernel_rfl)
theorem glre_23_7 {T : List Value} {dd : Option Tmp} {op : Op} {ty : TypeId} {pos : String} {af : Array Edge} {want : Bool} : agd rlre_23 T { dst := dd, op := op, type := ty, pos := pos, after := af, guard := some (7, want) } = gdAt T 138 want := agd_at (by kernel_rfl)
noncomputable def rlre_24 := opR Tryd.f3 [1,1,1,1,1,1,1,1,1,1,1,1,1,1,1,1,1,0]
noncomputable def rlre_25 := opR Tryd.f3 [1,1,1,1,1,1,1,1,1,1,1,1,1,1,1,1,1,1,0]
theorem glre_25_2 {T : List Value} {dd : Option Tmp} {op : Op} {ty : TypeId} {pos : String} {af : Array Edge} {want : Bool} : agd rlre_25 T { dst := dd, op := op, type := ty, pos := pos, after := af, guard := some (2, want) } = gdAt T 151 want := agd_at (by kernel_rfl)
theorem glre_25_9 {T : List Value} {dd : Option Tmp} {op : Op} {ty : TypeId} {pos : String} {af : Array Edge} {want : Bool} : agd rlre_25 T { dst := dd, op := op, type := ty, pos := pos, after := af, guard := some (9, want) } = gdAt T 158 want := agd_at (by kernel_rfl)
theorem bodylre : Tryd.f3.body = some (.seq (.region 0 rlre_0 false) (.seq (.seq (.region 1 rlre_1 false) (.cond (.tmp 21) (.seq (.region 2 rlre_2 false) .ret) .skip)) (.seq (.region 3 rlre_3 true) (.seq (.region 4 rlre_4 false) (.seq (.region 5 rlre_5 false) (.seq (.seq (.region 6 rlre_6 false) (.cond (.tmp 47) (.seq (.region 7 rlre_7 false) .ret) .skip)) (.seq (.region 8 rlre_8 false) (.seq (.region 9 rlre_9 false) (.seq (.region 10 rlre_10 false) (.seq (.seq (.region 11 rlre_11 false) (.cond (.tmp 61) (.region 12 rlre_12 false) .skip)) (.seq (.seq (.region 13 rlre_13 false) (.cond (.tmp 84) (.seq (.region 14 rlre_14 false) .ret) .skip)) (.seq (.region 15 rlre_15 false) (.seq (.region 16 rlre_16 false) (.seq (.seq (.region 17 rlre_17 false) (.cond (.tmp 106) (.seq (.region 18 rlre_18 false) .ret) .skip)) (.seq (.seq (.region 19 rlre_19 false) (.cond (.tmp 120) (.seq (.region 20 rlre_20 false) .ret) .skip)) (.seq (.region 21 rlre_21 false) (.seq (.seq (.region 22 rlre_22 false) (.cond (.tmp 130) (.seq (.region 23 rlre_23 false) .ret) .skip)) (.seq (.region 24 rlre_24 false) (.seq (.region 25 rlre_25 false) .ret))))))))))))))))))) := rfl
noncomputable def rwlen_0 := opR Tryd.f19 [0]
noncomputable def rwlen_1 := opR Tryd.f19 [1,0]
noncomputable def rwlen_2 := opR Tryd.f19 [1,1,0,0]
noncomputable def rwlen_3 := opR Tryd.f19 [1,1,0,1,0,0]
noncomputable def rwlen_4 := opR Tryd.f19 [1,1,1,0]
theorem bodywlen : Tryd.f19.body = some (.seq (.region 0 rwlen_0 false) (.seq (.region 1 rwlen_1 false) (.seq (.seq (.region 2 rwlen_2 false) (.cond (.tmp 7) (.seq (.region 3 rwlen_3 false) .ret) .skip)) (.seq (.region 4 rwlen_4 false) .ret)))) := rfl
noncomputable def rlow_0 := opR Tryd.f12 [0]
noncomputable def llow_0 : List Oper := match Tryd.f12.body with
  | some (.seq (.region _ o _) _) => o.toList
  | _ => []
theorem elow_0 : rlow_0.toList = llow_0 := rfl
noncomputable def rlow_1 := opR Tryd.f12 [1,0,0]
noncomputable def llow_1 : List Oper := match Tryd.f12.body with
  | some (.seq _ (.seq (.seq (.region _ o _) _) _)) => o.toList
  | _ => []
theorem elow_1 : rlow_1.toList = llow_1 := rfl
noncomputable def rlow_2 := opR Tryd.f12 [1,0,1,0]
noncomputable def llow_2 : List Oper := match Tryd.f12.body with
  | some (.seq _ (.seq (.seq _ (.cond _ (.region _ o _) _)) _)) => o.toList
  | _ => []
theorem elow_2 : rlow_2.toList = llow_2 := rfl
noncomputable def rlow_3 := opR Tryd.f12 [1,1,0]
noncomputable def llow_3 : List Oper := match Tryd.f12.body with
  | some (.seq _ (.seq _ (.seq (.region _ o _) _))) => o.toList
  | _ => []
theorem elow_3 : rlow_3.toList = llow_3 := rfl
theorem bodylow : Tryd.f12.body = some (.seq (.region 0 rlow_0 false) (.seq (.seq (.region 1 rlow_1 false) (.cond (.tmp 5) (.region 2 rlow_2 false) .skip)) (.seq (.region 3 rlow_3 false) .ret))) := rfl
set_option maxHeartbeats 4000000
-- ntmps 89
theorem callA1 : callableB E.P 7 = true := by kernel_rfl
theorem callNum : callableB E.P 8 = true := by kernel_rfl
section
variable {self : Self} {nf : Nat} {M : Mem} {F : Nat -> Value} {w s : Nat -> Nat} {n i : Int} {p q N : Nat} {L : List Value}
end
set_option maxHeartbeats 4000000
section
variable {self : Self} {nf : Nat} {Z : Mem} {w : Nat -> Nat} {n i : Int} {N : Nat} {L : List Value}
end
abbrev K1 : List Fact := [awakeF1]
theorem K1_hold (F : Fact) (h : F ∈ K1) : F.holds E.P mem1 := by
  simp only [List.mem_cons, List.not_mem_nil, or_false] at h
  subst h
  exact awake01
theorem awake1_call (x : Mem) : ainv E (runK E mem1 K1 2000) 7 [] (mem1 ++ x) = some (.bool true, mem1 ++ x) := by
  have h : runK E mem1 K1 2000 7 [] mem1 = some (.bool true, mem1) := by kernel_rfl
  exact ainv_lit rfl (by kernel_rfl) (by rw [show ((mem1 ++ x).take E.G).map onlyTab = mem1 from rfl]; exact h) rfl
end Go.Am.Seat
namespace Go.Am.Seat
open Go.Proofs Go.Am Go.Am.Num Go.Am.Kn
theorem W8_256 : W8 = 256 ^ 64 := by unfold W8; decide +kernel
theorem slG27 {m : Mem} {b n k c : Nat} {ro : Bool} {cs : List Value} (h : m[b]? = some (.row ro 3 cs)) (hc0 : 0 < c) (hc : n ≤ c) (hk : k ≤ c) : aslice E.P 27 (.slice (some ⟨b, 0, none⟩) k c) none (some (.int .i64 (n : Nat))) m = some (.slice (some ⟨b, 0, none⟩) n c) := by
  obtain ⟨i, h1, h2⟩ := info3
  unfold aslice
  simp only [und27, h1, lookRow h]
  unfold abounds abound
  simp only
  rw [if_pos (by omega)]
  simp only
  rw [if_neg (by simp [h2]; omega)]
  simp
theorem TrimAt.up {l : List Nat} {k n : Nat} (h : TrimAt (l.take k) n) (hk : k ≤ l.length) : n ≤ k /\ (n = 0 ∨ ∃ x, 0 < x /\ l[n - 1]? = some x) := by
  obtain ⟨h1, h2, h3⟩ := h
  rw [List.length_take, Nat.min_eq_left hk] at h1
  refine ⟨h1, ?_⟩
  rcases h3 with h3 | ⟨x, hx, h4⟩
  . exact .inl h3
  . rw [List.getElem?_take] at h4
    split at h4
    . exact .inr ⟨x, hx, h4⟩
    . cases h4
section
variable {self : Self} {nf : Nat} {m : Mem} {F : Nat -> Value} {b k0 : Nat} {l : List Nat} {ro : Bool}
theorem trimG (hb : m[b]? = some (.row ro 3 (cellsN l))) (hl : 0 < l.length) (hkl : k0 ≤ l.length) (hl' : k0 ≤ 1000) (hf : 1000 < nf) :
    ∃ n, TrimAt (l.take k0) n /\ abody E self nf 40 [.slice (some ⟨b, 0, none⟩) k0 l.length] m = some (.slice (some ⟨b, 0, none⟩) n l.length, m) := by
  rw [abody_eqF (by kernel_rfl) Tryd.func40 bodytrm (by kernel_rfl) (Nat.le_of_ble_eq_true rfl)]
  rw [show Tryd.f40.ntmps = 21 from rfl]
  have hlt : (l.take k0).length = k0 := by rw [List.length_take, Nat.min_eq_left hkl]
  have up : ∀ j, j < k0 -> (l.take k0)[j]? = l[j]? := fun j hj => by rw [List.getElem?_take, if_pos hj]
  have hloop := aloop_inv (body := acodeN E self nf lptrm_0) (N := k0)
    (I := fun k T m' => m' = m /\ (∀ j, k0 - k ≤ j -> j < k0 -> (l.take k0)[j]? = some 0) /\ ∃ G, T = lst G 21 /\ G 0 = .slice (some ⟨b, 0, none⟩) k0 l.length /\ G 3 = .int .i64 ((k0 - k : Nat) : Int))
    (Q := fun e T m' => e = .exit 0 /\ m' = m /\ ∃ n G, TrimAt (l.take k0) n /\ T = lst G 21 /\ G 0 = .slice (some ⟨b, 0, none⟩) k0 l.length /\ G 3 = .int .i64 (n : Nat)) (fun k T m' hk hI => by
      obtain ⟨rfl, hz, G, rfl, g0, g3⟩ := hI
      by_cases hmore : k < k0 /\ (l.take k0)[k0 - k - 1]? = some 0
      . left
        have h9 : k0 - k = (k0 - (k + 1)) + 1 := by omega
        rw [h9] at g3
        obtain ⟨F', hr, f0, f3⟩ := iterTrm (self := self) (nf := nf) g0 g3 (by omega) (by omega) hb (by rw [← up _ (by omega), show k0 - (k + 1) = k0 - k - 1 by omega]; exact hmore.2)
        refine ⟨_, _, hr, hmore.1, rfl, fun j hj hj2 => ?_, F', rfl, by rw [f0, g0], f3⟩
        by_cases hje : j = k0 - (k + 1)
        . rw [hje, show k0 - (k + 1) = k0 - k - 1 by omega]; exact hmore.2
        . exact hz j (by omega) hj2
      . right
        have hx : k0 - k = 0 ∨ ∃ x, 0 < x /\ (l.take k0)[k0 - k - 1]? = some x := by
          by_cases hk2 : k < k0
          . right
            have hlt2 : k0 - k - 1 < (l.take k0).length := by omega
            refine ⟨(l.take k0)[k0 - k - 1], ?_, by rw [List.getElem?_eq_getElem hlt2]⟩
            rcases Nat.eq_zero_or_pos (l.take k0)[k0 - k - 1] with h0 | h0
            . exact absurd ⟨hk2, by rw [List.getElem?_eq_getElem hlt2, h0]⟩ hmore
            . exact h0
          . left; omega
        have hx2 : k0 - k = 0 ∨ ∃ x, 0 < x /\ l[k0 - k - 1]? = some x := by
          rcases hx with h | ⟨x, h1, h2⟩
          . exact .inl h
          . by_cases hz0 : k0 - k = 0
            . exact .inl hz0
            . exact .inr ⟨x, h1, by rw [← up _ (by omega)]; exact h2⟩
        obtain ⟨F', hr, f0, f3⟩ := lastTrm (self := self) (nf := nf) g0 g3 (by omega) (by omega) hb hx2
        exact ⟨_, _, _, hr, by simp, rfl, rfl, k0 - k, F', ⟨by omega, fun j h1 h2 => hz j h1 (by omega), hx⟩, rfl, by rw [f0, g0], by rw [f3, g3]⟩)
  obtain ⟨e, T', m', hr, rfl, rfl, n, G, hT, rfl, g0, g3⟩ := hloop k0 0 nf (lst (upd (upd (upd (upd (init [.slice (some ⟨b, 0, none⟩) k0 l.length]) 2 (.slice none 0 0)) 4 (.slice (some ⟨b, 0, none⟩) k0 l.length)) 5 (.int .i64 ((k0 : Nat) : Int))) 3 (.int .i64 ((k0 : Nat) : Int))) 21) m (by omega) (by omega) ⟨rfl, fun j h1 h2 => by omega, _, rfl, rfl, rfl⟩
  refine ⟨n, hT, ?_⟩
  have hn : n ≤ l.length := by have := hT.1; omega
  have sl := slG27 (n := n) (k := k0) hb hl hn hkl
  simp only [etrm_0, etrm_1, etrm_4, ltrm_0, ltrm_1, ltrm_4, agd_none, Tryd.f40, acodeN, aopsN, astep, aop, ev, nth_lst, aput, setAt_lst, upd_at, init_zero, init_succ, init_nil, Nat.reduceLT, Nat.reduceEqDiff, abuiltin, alen, Option.map_some, Option.map_none, if_true, if_false, und27, hr, g0, g3, sl, finish, ares, aresL, ares1]
end
def CTrimG (self : Self) : Prop := ∀ (m : Mem) (b k0 : Nat) (ro : Bool) (l : List Nat), m[b]? = some (.row ro 3 (cellsN l)) -> l ≠ [] -> k0 ≤ l.length -> k0 ≤ 1000 -> ∃ n, TrimAt (l.take k0) n /\ ainv E self 40 [.slice (some ⟨b, 0, none⟩) k0 l.length] m = some (.slice (some ⟨b, 0, none⟩) n l.length, m)
def CTrim0 (self : Self) : Prop := ∀ m : Mem, ainv E self 40 [.slice none 0 0] m = some (.slice none 0 0, m)
theorem ctrimG {R : Nat -> Self} {K : List Fact} (hR : Runs R K) {n : Nat} (hK : hasF K 40 = false) (hn : 1001 ≤ n) : CTrimG (R n) := by
  obtain ⟨j, rfl⟩ : ∃ j, n = j + 1 := ⟨n - 1, by omega⟩
  intro m b k0 ro l hb hl hk hk2
  have hbs : (m.map Am.sealed)[b]? = some (.row true 3 (cellsN l)) := by
    rw [List.getElem?_map, hb]; rfl
  obtain ⟨i, hT, hbd⟩ := trimG (self := R j) (nf := j + 1) hbs (List.length_pos_iff.2 hl) hk hk2 (by omega)
  refine ⟨i, hT, ?_⟩
  unfold ainv
  rw [show ([Value.slice (some ⟨b, 0, none⟩) k0 l.length].all lit2) = false from rfl, show E.wr 40 = false from by kernel_rfl]
  simp only [Bool.false_eq_true, if_false, hR.b hK hbd]
  exact acoll_old (by rw [List.length_map]; exact lt_of_at hb)
theorem ctrim0 {R : Nat -> Self} {K : List Fact} (hR : Runs R K) {n : Nat} (hK : hasF K 40 = false) (hn : 1001 ≤ n) : CTrim0 (R n) := by
  obtain ⟨j, rfl⟩ : ∃ j, n = j + 1 := ⟨n - 1, by omega⟩
  exact fun m => ainv_lit rfl (by kernel_rfl) (hR.b hK trim_nil) rfl
def CLow (self : Self) : Prop := ∀ (m : Mem) (a : Value) (x : Nat), NumS m a x -> (dig x).length ≤ 800 -> ∃ v, ainv E self 12 [a] m = some (v, m) /\ NumA m v (dig (x % W8))
section
variable {self : Self} {nf : Nat} {m : Mem} {F : Nat -> Value} {b n k x : Nat} {ro : Bool} {L : List Nat}
theorem low_nil (h0 : CTrim0 self) : abody E self nf 12 [.slice none 0 0] m = some (.slice none 0 0, m) := by
  rw [abody_eqF (by kernel_rfl) Tryd.func12 bodylow (by kernel_rfl) (Nat.le_of_ble_eq_true rfl)]
  rw [show Tryd.f12.ntmps = 10 from rfl]
  have h := h0 m
  have q : decide ((0 : Int) > 64) = false := rfl
  simp only [elow_0, elow_1, elow_3, llow_0, llow_1, llow_3, agd_none, Tryd.f12, List.cons_append, List.nil_append, acodeN, aopsN, astep, aop, ev, nth_lst, aput, setAt_lst, upd_at, init_zero, init_succ, init_nil, Nat.reduceLT, Nat.reduceEqDiff, len_N, Option.map_some, List.map_cons, List.map_nil, List.isEmpty_nil, bls, if_true, if_false, lenV, gtr64', q, calltrim, h, finish, ares, aresL, ares1]
theorem low_short (hn : n ≤ 64) (hT : ainv E self 40 [.slice (some ⟨b, 0, none⟩) n L.length] m = some (.slice (some ⟨b, 0, none⟩) k L.length, m)) : abody E self nf 12 [.slice (some ⟨b, 0, none⟩) n L.length] m = some (.slice (some ⟨b, 0, none⟩) k L.length, m) := by
  rw [abody_eqF (by kernel_rfl) Tryd.func12 bodylow (by kernel_rfl) (Nat.le_of_ble_eq_true rfl)]
  rw [show Tryd.f12.ntmps = 10 from rfl]
  have q : decide (((n : Nat) : Int) > 64) = false := decide_eq_false (by omega)
  simp only [elow_0, elow_1, elow_3, llow_0, llow_1, llow_3, agd_none, Tryd.f12, List.cons_append, List.nil_append, acodeN, aopsN, astep, aop, ev, nth_lst, aput, setAt_lst, upd_at, init_zero, init_succ, init_nil, Nat.reduceLT, Nat.reduceEqDiff, len_N, Option.map_some, List.map_cons, List.map_nil, List.isEmpty_nil, bls, if_true, if_false, lenV, gtr64', q, calltrim, hT, finish, ares, aresL, ares1]
theorem low_long (hn : 64 < n) (hb : m[b]? = some (.row ro 3 (cellsN L))) (hL : n ≤ L.length) (hT : ainv E self 40 [.slice (some ⟨b, 0, none⟩) 64 L.length] m = some (.slice (some ⟨b, 0, none⟩) k L.length, m)) : abody E self nf 12 [.slice (some ⟨b, 0, none⟩) n L.length] m = some (.slice (some ⟨b, 0, none⟩) k L.length, m) := by
  rw [abody_eqF (by kernel_rfl) Tryd.func12 bodylow (by kernel_rfl) (Nat.le_of_ble_eq_true rfl)]
  rw [show Tryd.f12.ntmps = 10 from rfl]
  have q : decide (((n : Nat) : Int) > 64) = true := decide_eq_true (by omega)
  have sl := slG27 (n := 64) (k := n) hb (by omega) (show 64 ≤ L.length by omega) hL
  rw [show (((64 : Nat) : Int)) = 64 from rfl] at sl
  simp only [elow_0, elow_1, elow_2, elow_3, llow_0, llow_1, llow_2, llow_3, agd_none, Tryd.f12, List.cons_append, List.nil_append, acodeN, aopsN, astep, aop, ev, nth_lst, aput, setAt_lst, upd_at, init_zero, init_succ, init_nil, Nat.reduceLT, Nat.reduceEqDiff, len_N, Option.map_some, Option.map_none, List.map_cons, List.map_nil, List.isEmpty_nil, bls, if_true, if_false, lenV, gtr64', q, sl, calltrim, hT, finish, ares, aresL, ares1]
end
theorem clow {R : Nat -> Self} {K : List Fact} (hR : Runs R K) {n : Nat} (hK : hasF K 12 = false) (hT : ∀ k, n ≤ k + 1 -> CTrimG (R k)) (hT0 : ∀ k, n ≤ k + 1 -> CTrim0 (R k)) (hn : 1002 ≤ n) : CLow (R n) := by
  obtain ⟨j, rfl⟩ : ∃ j, n = j + 1 := ⟨n - 1, by omega⟩
  intro m a x ha hx
  have hT := hT j (by omega)
  have hT0 := hT0 j (by omega)
  rcases ha with ⟨rfl, rfl⟩ | ⟨b, ro, L, k, rfl, h1, h2, h3, hne⟩
  . refine ⟨.slice none 0 0, ainv_lit rfl (by kernel_rfl) (hR.b hK (low_nil hT0)) rfl, ?_⟩
    rw [Nat.zero_mod, dig_zero]
    exact NumA.nil _
  . have hbs : (m.map Am.sealed)[b]? = some (.row true 3 (cellsN L)) := by
      rw [List.getElem?_map, h3]; rfl
    have hlk : (dig x).length = k := by rw [← h2, List.length_take, Nat.min_eq_left h1]
    have fin : ∀ i, abody E (R j) (j + 1) 12 [.slice (some ⟨b, 0, none⟩) k L.length] (m.map Am.sealed) = some (.slice (some ⟨b, 0, none⟩) i L.length, m.map Am.sealed) -> ainv E (R (j + 1)) 12 [.slice (some ⟨b, 0, none⟩) k L.length] m = some (.slice (some ⟨b, 0, none⟩) i L.length, m) := by
      intro i h
      unfold ainv
      rw [show ([Value.slice (some ⟨b, 0, none⟩) k L.length].all lit2) = false from rfl, show E.wr 12 = false from by kernel_rfl]
      simp only [Bool.false_eq_true, if_false, hR.b hK h]
      exact acoll_old (by rw [List.length_map]; exact lt_of_at h3)
    by_cases hs : k ≤ 64
    . obtain ⟨i, t1, t2⟩ := hT _ b k true L hbs hne h1 (by omega)
      refine ⟨_, fin i (low_short hs t2), ?_⟩
      have e := trim_val t1 (by rw [h2]; exact dig_lt x)
      rw [h2, val_dig] at e
      have hlt : x < W8 := by
        have := val_lt (dig_lt x)
        rw [val_dig, hlk] at this
        rw [W8_256]
        exact Nat.lt_of_lt_of_le this (Nat.pow_le_pow_right (by omega) hs)
      rw [Nat.mod_eq_of_lt hlt]
      have hi := (t1.up h1).1
      have := NumA.row (n := i) (c := L.length) h3 (by omega)
      rw [show L.take i = dig x by rw [← e, ← h2, List.take_take, Nat.min_eq_left hi]] at this
      exact this
    . obtain ⟨i, t1, t2⟩ := hT _ b 64 true L hbs hne (by omega) (by omega)
      refine ⟨_, fin i (low_long (by omega) hbs h1 t2), ?_⟩
      have e0 : L.take 64 = (dig x).take 64 := by rw [← h2, List.take_take, Nat.min_eq_left (by omega)]
      have e := trim_val t1 (by rw [e0]; exact fun y hy => dig_lt x y (List.mem_of_mem_take hy))
      have hi := (t1.up (by omega)).1
      rw [e0, val_take (dig_lt x), val_dig, ← W8_256] at e
      have := NumA.row (n := i) (c := L.length) h3 (by omega)
      rw [show L.take i = dig (x % W8) by rw [← e, ← e0, List.take_take, Nat.min_eq_left hi]] at this
      exact this
theorem val8 (w : Nat -> Nat) (hw : ∀ j, w j < 18446744073709551616) (n : Nat) : val ((List.range 8).map fun t => byW w (8 * n + t)) = w n := by
  have e : ∀ t, t < 8 -> byW w (8 * n + t) = w n / 2 ^ (8 * t) % 256 := fun t ht => by
    unfold byW
    rw [show (8 * n + t) / 8 = n by omega, show (8 * n + t) % 8 = t by omega]
  have hw := hw n
  show val [byW w (8 * n + 0), byW w (8 * n + 1), byW w (8 * n + 2), byW w (8 * n + 3), byW w (8 * n + 4), byW w (8 * n + 5), byW w (8 * n + 6), byW w (8 * n + 7)] = w n
  rw [e 0 (by omega), e 1 (by omega), e 2 (by omega), e 3 (by omega), e 4 (by omega), e 5 (by omega), e 6 (by omega), e 7 (by omega)]
  simp only [val, show 2 ^ (8 * 0) = 1 from rfl, show 2 ^ (8 * 1) = 256 from rfl, show 2 ^ (8 * 2) = 65536 from rfl, show 2 ^ (8 * 3) = 16777216 from rfl, show 2 ^ (8 * 4) = 4294967296 from rfl, show 2 ^ (8 * 5) = 1099511627776 from rfl, show 2 ^ (8 * 6) = 281474976710656 from rfl, show 2 ^ (8 * 7) = 72057594037927936 from rfl]
  generalize w n = x at *
  omega
theorem val_words (w : Nat -> Nat) (hw : ∀ j, w j < 18446744073709551616) : ∀ n, val ((List.range (8 * n)).map (byW w)) = vN w n
  | 0 => rfl
  | n + 1 => by
    have h8 := val8 w hw n
    rw [show 8 * (n + 1) = 8 * n + 8 by omega, List.range_add, List.map_append, val_append, val_words w hw n, List.map_map, List.length_map, List.length_range]
    rw [show (List.map (byW w ∘ fun x => 8 * n + x) (List.range 8)) = (List.range 8).map fun t => byW w (8 * n + t) from rfl, h8, Nat.pow_mul]
    rfl
def CNumW (self : Self) : Prop := ∀ (m : Mem) (x : Nat), x < W8 -> ∃ v m', ainv E self 8 [wd x] m = some (v, m') /\ NumR m v m' x
theorem cnumW {Z : Mem} {K : List Fact} {n : Nat} (hK : hasF K 40 = false) (hK' : hasF K 15 = false) (hK2 : hasF K 8 = false) (hn : 1003 ≤ n) : CNumW (runK E Z K n) := by
  obtain ⟨k, rfl⟩ : ∃ k, n = k + 3 := ⟨n - 3, by omega⟩
  intro m x hx
  have hl : (natsOf (byS (wN x))).length = 64 := by rw [natsOf_byS]; simp
  obtain ⟨N, hN⟩ := trimAt_exists (l := natsOf (byS (wN x))) (by omega) (by omega)
  have h := num_call (Z := Z) (M := m) hK hK' hK2 hN (k := k) (by omega)
  refine ⟨_, _, h, .inr ⟨natsOf (byS (wN x)), N, hN.1, ?_, by rw [hl], rfl, fun e => by rw [e] at hl; cases hl⟩⟩
  have hx9 : ∀ y, y ∈ natsOf (byS (wN x)) -> y < 256 := by
    rw [natsOf_byS]
    intro y hy
    obtain ⟨t, _, rfl⟩ := List.mem_map.1 hy
    exact byW_lt (wN x) t
  rw [trim_val hN hx9, natsOf_byS, val_words (wN x) (wN_lt x) 8, vN_wN8 hx]
theorem owlen_0 : rwlen_0.toList = [⟨some 1, .box 24 (.tmp 0), 0, "limb.go:118", #[], none⟩, ⟨some 2, .assign (.const (.int .i64 0)), 3, "limb.go:118", #[], none⟩] := rfl
theorem owlen_1 : rwlen_1.toList = [⟨some 4, .load 24 (.tmp 1), 24, "limb.go:119", #[], none⟩, ⟨some 5, .call { callee := .value (.func 43), args := #[.tmp 4], argTypes := #[24] }, 3, "limb.go:119", #[eD 0], none⟩, ⟨some 3, .assign (.tmp 5), 3, "limb.go:119", #[eD 1, eC 1, eP 0, eP 1], none⟩] := rfl
theorem owlen_2 : rwlen_2.toList = [⟨some 6, .move (.tmp 3), 3, "limb.go:120", #[], none⟩, ⟨some 7, .binOp .eql 3 (.tmp 6) (.const (.int .i64 0)) 3, 4, "limb.go:120", #[eD 0], none⟩] := rfl
theorem owlen_3 : rwlen_3.toList = [⟨some 2, .assign (.const (.int .i64 0)), 3, "limb.go:121", #[], none⟩] := rfl
theorem owlen_4 : rwlen_4.toList = [⟨some 8, .move (.tmp 3), 3, "limb.go:123", #[], none⟩, ⟨some 9, .binOp .sub 3 (.tmp 8) (.const (.int .i64 1)) 3, 3, "limb.go:123", #[eD 0], none⟩, ⟨some 10, .binOp .mul 3 (.tmp 9) (.const (.int .i64 64)) 3, 3, "limb.go:123", #[eD 1], none⟩, ⟨some 11, .move (.tmp 3), 3, "limb.go:123", #[], none⟩, ⟨some 12, .binOp .sub 3 (.tmp 11) (.const (.int .i64 1)) 3, 3, "limb.go:123", #[eD 3], none⟩, ⟨some 13, .indexAddr 24 (.tmp 1) (.tmp 12), 0, "limb.go:123", #[eD 4], none⟩, ⟨some 14, .load 22 (.tmp 13), 22, "limb.go:123", #[eD 5], none⟩, ⟨some 15, .call { callee := .value (.func 44), args := #[.tmp 14], argTypes := #[22] }, 3, "limb.go:123", #[eD 6], none⟩, ⟨some 16, .binOp .add 3 (.tmp 10) (.tmp 15) 3, 3, "limb.go:123", #[eD 2, eD 7], none⟩, ⟨some 2, .assign (.tmp 16), 3, "limb.go:123", #[eD 8, eC 7, eP 0, eP 1, eP 2, eP 3, eP 4, eP 5, eP 6, eP 7, eP 8], none⟩] := rfl
theorem mul64I {a : Nat} (h : a < 1000) : wrapF .i64 (((a : Nat) : Int) * 64) = ((a * 64 : Nat) : Int) := by rw [wrap_i64 (by omega) (by omega)]; omega
theorem mulI64' (a b : Int) : abin .mul .i64 a .i64 b = some (.int .i64 (wrapF .i64 (a * b))) := by kernel_rfl
section
variable {self : Self} {nf : Nat} {m : Mem} {F : Nat -> Value} {w : Nat -> Nat} {p n l : Nat}
theorem wlen_0 {m1 : Mem} (hb : abox E.P 24 (wide w) m = some (.pointer (some ⟨p, 0, none⟩), m1)) (h0 : F 0 = wide w) : ∃ F', acodeN E self nf (.region 0 rwlen_0 false) (lst F 17) m = some (.normal, lst F' 17, m1) /\ F' 1 = .pointer (some ⟨p, 0, none⟩) /\ F' 2 = .int .i64 0 := by
  simp only [owlen_0, agd_none, acodeN, aopsN, astep, aop, ev, nth_lst, aput, setAt_lst, Nat.reduceLT, if_true, h0, hb]
  exact ⟨_, rfl, rfl, rfl⟩
theorem wlen_1 (h1 : F 1 = .pointer (some ⟨p, 0, none⟩)) (ld : aload E.P 24 (.pointer (some ⟨p, 0, none⟩)) m = some (wide w)) (hc : ∀ M, ainv E self 43 [wide w] M = some (.int .i64 ((n : Nat) : Int), M)) : ∃ F', acodeN E self nf (.region 1 rwlen_1 false) (lst F 17) m = some (.normal, lst F' 17, m) /\ F' 3 = .int .i64 ((n : Nat) : Int) /\ F' 1 = F 1 := by
  simp only [owlen_1, agd_none, List.cons_append, List.nil_append, acodeN, aopsN, astep, aop, ev, nth_lst, aput, setAt_lst, upd_at, Nat.reduceLT, Nat.reduceEqDiff, Option.map_some, List.map_cons, List.map_nil, List.isEmpty_nil, bls, if_true, if_false, h1, ld, callUs, hc]
  exact ⟨_, rfl, rfl, by simp only [upd_at, Nat.reduceEqDiff, reduceIte, h1]⟩
theorem wlen_2 {b : Bool} (h3 : F 3 = .int .i64 ((n : Nat) : Int)) (hb : (((n : Nat) : Int) == 0) = b) : ∃ F', acodeN E self nf (.region 2 rwlen_2 false) (lst F 17) m = some (.normal, lst F' 17, m) /\ F' 7 = .bool b /\ F' 1 = F 1 /\ F' 3 = F 3 := by
  simp only [owlen_2, agd_none, acodeN, aopsN, astep, aop, ev, nth_lst, aput, setAt_lst, upd_at, Nat.reduceLT, Option.map_some, eqlVal_int, ↓aop_eqlV, if_true, h3, hb]
  exact ⟨_, rfl, rfl, rfl, by simp only [upd_at, Nat.reduceEqDiff, reduceIte, h3]⟩
theorem wlen_3 : ∃ F', acodeN E self nf (.region 3 rwlen_3 false) (lst F 17) m = some (.normal, lst F' 17, m) /\ F' 2 = .int .i64 0 := by
  simp only [owlen_3, agd_none, acodeN, aopsN, astep, aop, ev, aput, setAt_lst]
  exact ⟨_, rfl, rfl⟩
theorem wlen_4 {x : Nat} (h1 : F 1 = .pointer (some ⟨p, 0, none⟩)) (h3 : F 3 = .int .i64 ((n + 1 : Nat) : Int)) (hn : n < 8) (c : cellAt m p n = some (U x)) (hl : l ≤ 64) (hc : ∀ M, ainv E self 44 [U x] M = some (.int .i64 ((l : Nat) : Int), M)) :
    ∃ F', acodeN E self nf (.region 4 rwlen_4 false) (lst F 17) m = some (.normal, lst F' 17, m) /\ F' 2 = .int .i64 ((n * 64 + l : Nat) : Int) := by
  have e : wrapF .i64 (((n + 1 : Nat) : Int) - 1) = ((n : Nat) : Int) := by rw [wrap_i64 (by omega) (by omega)]; omega
  have e2 := mul64I (a := n) (by omega)
  have e3 := addIW (a := n * 64) (b := l) (by omega)
  have i1 := ix24 (p := p) (k := n) hn
  simp only [owlen_4, agd_none, List.cons_append, List.nil_append, acodeN, aopsN, astep, aop, ev, nth_lst, aput, setAt_lst, upd_at, Nat.reduceLT, Nat.reduceEqDiff, Option.map_some, List.map_cons, List.map_nil, List.isEmpty_nil, bls, if_true, if_false, h1, h3, sub64', e, mulI64', e2, i1, load22, c, callLn64, hc, add64', e3]
  exact ⟨_, rfl, rfl⟩
theorem wlen_zero (hu : ∀ M, ainv E self 43 [wide w] M = some (.int .i64 ((0 : Nat) : Int), M)) : ∃ m', abody E self nf 19 [wide w] m = some (.int .i64 ((0 : Nat) : Int), m') := by
  rw [abody_eqF (by kernel_rfl) Tryd.func19 bodywlen (by kernel_rfl) (Nat.le_of_ble_eq_true rfl)]
  rw [show Tryd.f19.ntmps = 17 from rfl]
  obtain ⟨A, ra, a1, a2⟩ := wlen_0 (self := self) (nf := nf) (F := init [wide w]) (box24 w m) rfl
  obtain ⟨M, hM⟩ : ∃ M, M = m ++ [Blk.row false 24 (rowOf w)] := ⟨_, rfl⟩
  rw [← hM] at ra
  have gp : M[m.length]? = some (.row false 24 (rowOf w)) := by rw [hM, List.getElem?_append_right (Nat.le_refl _)]; simp
  clear hM
  obtain ⟨B, rb, b3, b1⟩ := wlen_1 (self := self) (nf := nf) (m := M) a1 (load24 gp) hu
  obtain ⟨C, rc, c7, c1, c3⟩ := wlen_2 (self := self) (nf := nf) (m := M) b3 (b := true) rfl
  obtain ⟨D, rd, d2⟩ := wlen_3 (self := self) (nf := nf) (m := M) (F := C)
  refine ⟨M, ?_⟩
  rw [show ((0 : Nat) : Int) = 0 from rfl]
  generalize Code.region 0 rwlen_0 false = C0 at *
  generalize Code.region 1 rwlen_1 false = C1 at *
  generalize Code.region 2 rwlen_2 false = C2 at *
  generalize Code.region 3 rwlen_3 false = C3 at *
  simp only [acodeN, ra, rb, rc, rd, finish, ares, aresL, ares1, Tryd.f19, ev, nth_lst, Nat.reduceLT, if_true, c7, d2, Option.map_some]
theorem wlen_some (hn : n < 8) (hl : l ≤ 64) (hu : ∀ M, ainv E self 43 [wide w] M = some (.int .i64 ((n + 1 : Nat) : Int), M)) (hc : ∀ M, ainv E self 44 [U (w n)] M = some (.int .i64 ((l : Nat) : Int), M)) : ∃ m', abody E self nf 19 [wide w] m = some (.int .i64 ((n * 64 + l : Nat) : Int), m') := by
  rw [abody_eqF (by kernel_rfl) Tryd.func19 bodywlen (by kernel_rfl) (Nat.le_of_ble_eq_true rfl)]
  rw [show Tryd.f19.ntmps = 17 from rfl]
  obtain ⟨A, ra, a1, a2⟩ := wlen_0 (self := self) (nf := nf) (F := init [wide w]) (box24 w m) rfl
  obtain ⟨M, hM⟩ : ∃ M, M = m ++ [Blk.row false 24 (rowOf w)] := ⟨_, rfl⟩
  rw [← hM] at ra
  have gp : M[m.length]? = some (.row false 24 (rowOf w)) := by rw [hM, List.getElem?_append_right (Nat.le_refl _)]; simp
  clear hM
  obtain ⟨B, rb, b3, b1⟩ := wlen_1 (self := self) (nf := nf) (m := M) a1 (load24 gp) hu
  obtain ⟨C, rc, c7, c1, c3⟩ := wlen_2 (self := self) (nf := nf) (m := M) b3 (b := false) (by rw [beq_eq_false_iff_ne]; omega)
  have cx : cellAt M m.length n = some (U (w n)) := by rw [cellAt_row gp, rowOf_get hn]
  obtain ⟨D, rd, d2⟩ := wlen_4 (self := self) (nf := nf) (m := M) (c1.trans (b1.trans a1)) (c3.trans b3) hn cx hl hc
  refine ⟨M, ?_⟩
  generalize Code.region 0 rwlen_0 false = C0 at *
  generalize Code.region 1 rwlen_1 false = C1 at *
  generalize Code.region 2 rwlen_2 false = C2 at *
  generalize Code.region 4 rwlen_4 false = C4 at *
  simp only [acodeN, ra, rb, rc, rd, finish, ares, aresL, ares1, Tryd.f19, ev, nth_lst, Nat.reduceLT, if_true, c7, d2, Option.map_some]
end
def IsLen (x n : Nat) : Prop := x < 2 ^ n /\ (n = 0 ∨ 2 ^ (n - 1) ≤ x)
theorem IsLen.uniq {x n k : Nat} (h : IsLen x n) (h' : IsLen x k) : n = k := by
  rcases Nat.lt_trichotomy n k with hl | hl | hl
  . rcases h'.2 with h0 | h0
    . omega
    . have h1 := h.1
      have h2 : 2 ^ n ≤ 2 ^ (k - 1) := Nat.pow_le_pow_right (by decide) (by omega)
      omega
  . exact hl
  . rcases h.2 with h0 | h0
    . omega
    . have h1 := h'.1
      have h2 : 2 ^ k ≤ 2 ^ (n - 1) := Nat.pow_le_pow_right (by decide) (by omega)
      omega
theorem isLen_bit {x n : Nat} (h1 : x < 2 ^ n) (h2 : n = 0 ∨ x / 2 ^ (n - 1) % 2 = 1) : IsLen x n := by
  refine ⟨h1, ?_⟩
  rcases h2 with h2 | h2
  . exact .inl h2
  . right
    rcases Nat.lt_or_ge x (2 ^ (n - 1)) with h | h
    . rw [Nat.div_eq_of_lt h] at h2; omega
    . exact h
theorem pow_B (k : Nat) : 18446744073709551616 ^ k = 2 ^ (k * 64) := by
  rw [show (18446744073709551616 : Nat) = 2 ^ 64 from rfl, ← Nat.pow_mul, Nat.mul_comm]
theorem isLen_top {v P w l : Nat} (hv : v < P) (h1 : w < 2 ^ l) (h2 : 2 ^ l ≤ 2 * w) (h0 : 0 < w) : v + P * w < P * 2 ^ l /\ (l = 0 ∨ P * 2 ^ (l - 1) ≤ v + P * w) := by
  refine ⟨?_, ?_⟩
  . have : P * (w + 1) ≤ P * 2 ^ l := Nat.mul_le_mul_left P h1
    rw [Nat.mul_add, Nat.mul_one] at this
    omega
  . rcases Nat.eq_zero_or_pos l with h | h
    . exact .inl h
    . right
      have e : 2 ^ l = 2 * 2 ^ (l - 1) := by rw [← Nat.pow_succ']; congr 1; omega
      have : P * 2 ^ (l - 1) ≤ P * w := Nat.mul_le_mul_left P (by omega)
      omega
def CLenW (self : Self) : Prop := ∀ x, x < W8 -> ∃ n, IsLen x n /\ Ans self 19 [wd x] (.int .i64 ((n : Nat) : Int))
theorem kLenW {R : Nat -> Self} {K : List Fact} (hR : Runs R K) (hK : NoL K) {n : Nat} (hK2 : hasF K 19 = false) (hn : 1002 ≤ n) : CLenW (R n) := by
  obtain ⟨j, rfl⟩ : ∃ j, n = j + 1 := ⟨n - 1, by omega⟩
  intro x hx
  obtain ⟨k, hu, ha⟩ := kUs (n := j) hR hK (by omega) (wN x)
  have hnum := hu.num
  rw [vN_wN8 hx] at hnum
  match k, hu, ha, hnum with
  | 0, hu, ha, hnum =>
    refine ⟨0, ⟨by rw [hnum, vN]; decide, .inl rfl⟩, ans_of rfl (by kernel_rfl) rfl fun m => ?_⟩
    obtain ⟨m', h⟩ := wlen_zero (self := R j) (nf := j + 1) (m := m) ha
    exact ⟨m', hR.b hK2 h⟩
  | k + 1, hu, ha, hnum =>
    have hk8 : k < 8 := by have := hu.1; omega
    have hk : wN x k ≠ 0 := by
      rcases hu.2.2 with h | h
      . omega
      . exact h
    obtain ⟨l1, l2⟩ := lenW_ok (wN_lt x k) (Nat.pos_of_ne_zero hk)
    obtain ⟨t1, t2⟩ := isLen_top (vN_lt (wN_lt x) k) l1 l2 (Nat.pos_of_ne_zero hk)
    rw [vN] at hnum
    rw [← hnum, pow_B, ← Nat.pow_add] at t1
    rw [← hnum, pow_B] at t2
    refine ⟨k * 64 + lenW (wN x k), ⟨t1, ?_⟩, ans_of rfl (by kernel_rfl) rfl fun m => ?_⟩
    . rcases t2 with h | h
      . rw [h] at l1; omega
      . by_cases h0 : lenW (wN x k) = 0
        . rw [h0] at l1; omega
        . rw [← Nat.pow_add] at h
          right
          rw [show k * 64 + lenW (wN x k) - 1 = k * 64 + (lenW (wN x k) - 1) by omega]
          exact h
    . obtain ⟨m', h⟩ := wlen_some (self := R j) (nf := j + 1) (m := m) hk8 (lenW_le _) ha (kLn hR hK (by omega) (wN_lt x k))
      exact ⟨m', hR.b hK2 h⟩
theorem callWAdd : callableB E.P 9 = true := by kernel_rfl
theorem callWSub : callableB E.P 13 = true := by kernel_rfl
theorem callWMul : callableB E.P 17 = true := by kernel_rfl
theorem callWDiv : callableB E.P 21 = true := by kernel_rfl
theorem neqBo (a b : Bool) {x y : Operand} : neqVal E.P 4 x y (.bool a) (.bool b) = some (.bool (a != b)) := by cases a <;> cases b <;> kernel_rfl
theorem exT0 (a b c : Value) : aextract (.tuple ⟨[a, b, c]⟩) 0 = some a := rfl
theorem exT1 (a b c : Value) : aextract (.tuple ⟨[a, b, c]⟩) 1 = some b := rfl
theorem exT2 (a b c : Value) : aextract (.tuple ⟨[a, b, c]⟩) 2 = some c := rfl
noncomputable def neqI (P : Program) (s : TypeId) (x y : Operand) (u v : Value) : Option Value := match u with
  | .int k a => (match v with
    | .int k' b => (match abin .neq k a k' b with
      | some w => some w
      | none => neqVal P s x y u v)
    | _ => neqVal P s x y u v)
  | _ => neqVal P s x y u v
theorem aop_neqI {P : Program} {T : List Value} {m : Mem} {d : Option Tmp} {s t ty : TypeId} {x y : Operand} {pos : String} {af : Array Edge} {g : Option (Nat × Bool)} :
    aop P T m { dst := d, op := .binOp .neq s x y t, type := ty, pos := pos, after := af, guard := g } = (neqI P s x y (ev T x) (ev T y)).map (·, m) := by
  have hp := apure_neqV (P := P) (T := T) (d := d) (s := s) (t := t) (ty := ty) (x := x) (y := y) (pos := pos) (af := af) (g := g)
  unfold aop neqI
  simp only
  cases hx : ev T x with
  | int k a =>
    cases hy : ev T y with
    | int k' b =>
      simp only
      cases abin .neq k a k' b with
      | some w => rfl
      | none => simp only; rw [hp, hx, hy]
    | _ => simp only; rw [hp, hx, hy]
  | _ => simp only; rw [hp, hx]
theorem notW (b : Bool) : apU E.P .not 4 4 (.bool b) = some (.bool !b) := by cases b <;> kernel_rfl
theorem one_more {M : Mem} {n : Nat} (hl : M.length = n) (o : Nat -> Nat) : ∃ m1 M', aalloc E.P 24 M = some (.pointer (some ⟨n, 0, none⟩), m1) /\ astore E.P 24 (.pointer (some ⟨n, 0, none⟩)) (wide o) m1 = some M' /\ M'[n]? = some (.row false 24 (rowOf o)) /\ (∀ k, k < n -> M'[k]? = M[k]?) /\ M'.length = n + 1 := by
  have ha := alloc24 M
  rw [hl] at ha
  have g : (M ++ [Blk.row false 24 (rowOf fun _ => 0)])[n]? = some (.row false 24 (rowOf fun _ => 0)) := by rw [← hl, List.getElem?_append_right (Nat.le_refl _)]; simp
  have st := store24 (w := o) g (rowOf_length _)
  refine ⟨_, _, ha, st, by rw [List.getElem?_set_self (lt_of_at g)], fun k hk => ?_, by simp [hl]⟩
  rw [List.getElem?_set_ne (by omega), List.getElem?_append_left (by omega)]
section
variable {self : Self} {nf : Nat} {m : Mem} {F : Nat -> Value} {w v o : Nat -> Nat} {p q s : Nat}
end
end Go.Am.Seat
