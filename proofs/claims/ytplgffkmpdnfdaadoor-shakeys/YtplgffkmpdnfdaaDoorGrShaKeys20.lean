/-
  Texts of my own, put together: O7, HK5, HK6, T.
-/
import Derived.Test.YtplgffkmpdnfdaaDoorGrShaKeys19
import Derived.Test.YtplgffkmpdnfdaaDoorGrShaKeys18
import Derived.Test.YtplgffkmpdnfdaaDoorGrShaKeys8
import Derived.Lib.LaidTab
/-
  ShaTexts: the texts' own laws, and the law at any two texts (own work).
-/
set_option linter.unusedSimpArgs false
set_option linter.unusedVariables false
namespace Go.Am.Seat
open Go.Proofs Go.Am
set_option maxRecDepth 100000

theorem hexd_ok : ∀ n : Fin 16, digitB (hexd n.val).toNat = true ∧ digitV (hexd n.val).toNat = n.val := by decide
theorem hexd_of : ∀ n : Fin 256, digitB n.val = true → hexd (digitV n.val) = UInt8.ofNat n.val := by decide

theorem hexOf_get : ∀ (l : List UInt8) (k : Nat) (b : UInt8), l[k]? = some b → (hexOf l)[2 * k]? = some (hexd (b.toNat / 16)) ∧ (hexOf l)[2 * k + 1]? = some (hexd (b.toNat % 16))
  | [], k, b, h => by simp at h
  | a :: l, 0, b, h => by
    simp at h
    subst h
    exact ⟨rfl, rfl⟩
  | a :: l, k + 1, b, h => by
    have := hexOf_get l k b (by simpa using h)
    have e : hexOf (a :: l) = hexd (a.toNat / 16) :: hexd (a.toNat % 16) :: hexOf l := rfl
    rw [e, show 2 * (k + 1) = 2 * k + 1 + 1 by omega, show 2 * k + 1 + 1 + 1 = 2 * k + 1 + 1 + 1 from rfl]
    simpa using this

theorem hexOf_getD {l : List UInt8} {k : Nat} (h : k < l.length) : (hexOf l).getD (2 * k) 0 = hexd (l[k].toNat / 16) ∧ (hexOf l).getD (2 * k + 1) 0 = hexd (l[k].toNat % 16) := by
  obtain ⟨h1, h2⟩ := hexOf_get l k l[k] (by simp [h])
  rw [List.getD_eq_getElem?_getD, List.getD_eq_getElem?_getD, h1, h2]
  exact ⟨rfl, rfl⟩

theorem par_hex {l : List UInt8} {k : Nat} (h : k < l.length) : parOk (hexOf l) k = true ∧ parV (hexOf l) k = l[k].toNat := by
  obtain ⟨h1, h2⟩ := hexOf_getD h
  have hlt := l[k].toNat_lt
  have a1 := hexd_ok ⟨l[k].toNat / 16, by omega⟩
  have a2 := hexd_ok ⟨l[k].toNat % 16, by omega⟩
  unfold parOk parV
  rw [h1, h2]
  simp only at a1 a2
  rw [a1.1, a2.1, a1.2, a2.2]
  exact ⟨rfl, by omega⟩

theorem allOk_hex (l : List UInt8) : allOk (hexOf l) = true := by
  unfold allOk
  rw [hexOf_length, Bool.and_eq_true]
  refine ⟨decide_eq_true (by omega), List.all_eq_true.2 fun k hk => ?_⟩
  have := List.mem_range.1 hk
  exact (par_hex (by omega)).1

theorem parsed_hex (l : List UInt8) : parsed (hexOf l) = l := by
  unfold parsed
  rw [hexOf_length, show 2 * l.length / 2 = l.length by omega]
  apply List.ext_getElem?
  intro k
  by_cases hk : k < l.length
  · rw [List.getElem?_map, List.getElem?_range hk, Option.map_some, (par_hex hk).2]
    simp [hk]
  · rw [List.getElem?_eq_none (by simpa using hk), List.getElem?_eq_none (by omega)]

theorem hex_parsed {t : List UInt8} (h : allOk t = true) : hexOf (parsed t) = t := by
  unfold allOk at h
  rw [Bool.and_eq_true] at h
  obtain ⟨h1, h2⟩ := h
  have h1 := of_decide_eq_true h1
  have hpl : (parsed t).length = t.length / 2 := by simp [parsed]
  have key : ∀ k, k < t.length / 2 → (hexOf (parsed t))[2 * k]? = t[2 * k]? ∧ (hexOf (parsed t))[2 * k + 1]? = t[2 * k + 1]? := by
    intro k hk
    have hok := List.all_eq_true.1 h2 k (List.mem_range.2 hk)
    unfold parOk at hok
    rw [Bool.and_eq_true] at hok
    have hp : (parsed t)[k]? = some (UInt8.ofNat (parV t k)) := by
      unfold parsed
      rw [List.getElem?_map, List.getElem?_range hk]
      rfl
    obtain ⟨g1, g2⟩ := hexOf_get (parsed t) k _ hp
    have v1 := digitV_lt (t.getD (2 * k) 0).toNat
    have v2 := digitV_lt (t.getD (2 * k + 1) 0).toNat
    have hv : (UInt8.ofNat (parV t k)).toNat = 16 * digitV (t.getD (2 * k) 0).toNat + digitV (t.getD (2 * k + 1) 0).toNat := by
      unfold parV
      rw [UInt8.toNat_ofNat']
      omega
    rw [hv, show (16 * digitV (t.getD (2 * k) 0).toNat + digitV (t.getD (2 * k + 1) 0).toNat) / 16 = digitV (t.getD (2 * k) 0).toNat by omega] at g1
    rw [hv, show (16 * digitV (t.getD (2 * k) 0).toNat + digitV (t.getD (2 * k + 1) 0).toNat) % 16 = digitV (t.getD (2 * k + 1) 0).toNat by omega] at g2
    have c1 := hexd_of ⟨(t.getD (2 * k) 0).toNat, UInt8.toNat_lt _⟩ hok.1
    have c2 := hexd_of ⟨(t.getD (2 * k + 1) 0).toNat, UInt8.toNat_lt _⟩ hok.2
    simp only [UInt8.ofNat_toNat] at c1 c2
    rw [g1, g2, c1, c2]
    have q1 : 2 * k < t.length := by omega
    have q2 : 2 * k + 1 < t.length := by omega
    rw [List.getD_eq_getElem?_getD, List.getD_eq_getElem?_getD]
    simp [q1, q2]
  apply List.ext_getElem?
  intro j
  by_cases hj : j < t.length
  · rcases Nat.mod_two_eq_zero_or_one j with h | h
    · have := (key (j / 2) (by omega)).1
      rw [show 2 * (j / 2) = j by omega] at this
      exact this
    · have := (key (j / 2) (by omega)).2
      rw [show 2 * (j / 2) + 1 = j by omega] at this
      exact this
  · rw [List.getElem?_eq_none (by rw [hexOf_length, hpl]; omega), List.getElem?_eq_none (by omega)]

/-- Two bytes of a length. -/
def twoB (n : Nat) : ByteArray := bytesOfL [UInt8.ofNat (n / 256), UInt8.ofNat n]
def textOf (ss : List ByteArray) : ByteArray := ⟨((ss.flatMap counted1).map fun n => UInt8.ofNat n.toNat).toArray⟩

theorem counted_list (s : ByteArray) (h : s.data.toList.length ≤ 5000) : (counted1 s).map (fun n => UInt8.ofNat n.toNat) = (twoB s.data.toList.length).data.toList ++ s.data.toList := by
  unfold counted1 bytesI twoB
  rw [List.map_append, List.map_map]
  have e0 : ((fun n : Int => UInt8.ofNat n.toNat) ∘ fun b : UInt8 => (b.toNat : Int)) = id := by
    funext b
    simp
  rw [e0, List.map_id, bytesOfL_list]
  generalize s.data.toList.length = n at h ⊢
  have e1 : ((((n : Nat) : Int) % 65536).fdiv 256 % 256).toNat = n / 256 := by
    rw [Int.fdiv_eq_ediv_of_nonneg _ (by omega)]
    omega
  have e2 : (((n : Nat) : Int) % 65536 % 256).toNat = n % 256 := by omega
  have e3 : UInt8.ofNat (n % 256) = UInt8.ofNat n := by
    apply UInt8.toNat_inj.1
    simp
  simp only [List.map_cons, List.map_nil, e1, e2, e3]

theorem text_two (s t : ByteArray) (hs : s.data.toList.length ≤ 5000) (ht : t.data.toList.length ≤ 5000) : textOf [s, t] = twoB s.data.toList.length ++ s ++ twoB t.data.toList.length ++ t := by
  apply ba_eq
  rw [ba_append, ba_append, ba_append]
  show ([s, t].flatMap counted1).map (fun n => UInt8.ofNat n.toNat) = _
  rw [List.flatMap_cons, List.flatMap_cons, List.flatMap_nil, List.append_nil, List.map_append, counted_list s hs, counted_list t ht]
  simp

theorem two_inj {a b : Nat} (ha : a ≤ 5000) (hb : b ≤ 5000) {x y : List UInt8} (h : (twoB a).data.toList ++ x = (twoB b).data.toList ++ y) : a = b := by
  unfold twoB at h
  rw [bytesOfL_list, bytesOfL_list] at h
  simp only [List.cons_append, List.nil_append, List.cons.injEq] at h
  have e1 := congrArg UInt8.toNat h.1
  have e2 := congrArg UInt8.toNat h.2.1
  simp only [UInt8.toNat_ofNat'] at e1 e2
  omega

theorem same_text (s t : ByteArray) (hs : s.data.toList.length ≤ 1000) (ht : t.data.toList.length ≤ 1000) :
    ((twoB s.data.toList.length ++ s ++ twoB t.data.toList.length ++ t).toList == (twoB (s ++ t).data.toList.length ++ (s ++ t) ++ twoB (⟨#[]⟩ : ByteArray).data.toList.length ++ ⟨#[]⟩).toList) = (t.toList == (⟨#[]⟩ : ByteArray).toList) := by
  rw [Bool.eq_iff_iff, beq_iff_eq, beq_iff_eq, ByteArray.toList_eq, ByteArray.toList_eq, ByteArray.toList_eq, ByteArray.toList_eq]
  have hl : (s ++ t).data.toList.length = s.data.toList.length + t.data.toList.length := by rw [ba_append, List.length_append]
  constructor
  · intro h
    rw [ba_append, ba_append, ba_append, ba_append, ba_append, ba_append, List.append_assoc, List.append_assoc, List.append_assoc, List.append_assoc] at h
    have := two_inj (by omega) (by omega) h
    have h0 : t.data.toList.length = 0 := by omega
    rw [List.eq_nil_of_length_eq_zero h0]
  · intro h
    have ht0 : t = ⟨#[]⟩ := ba_eq h
    subst ht0
    have e : s ++ (⟨#[]⟩ : ByteArray) = s := by
      apply ba_eq
      rw [ba_append]
      simp
    rw [e]

abbrev K2 : List Fact := [awakeF2]
theorem K2_hold (F : Fact) (h : F ∈ K2) : F.holds E.P mem2 := by
  simp only [List.mem_cons, List.not_mem_nil, or_false] at h
  subst h
  exact awake02

theorem awake_call : ainv E (runK E mem2 K2 2000) 32 [] mem2 = some (.bool true, mem2) := by kernel_rfl

theorem run_ans {self : Self} {g : FuncId} {args : List Value} {m : Mem} {v : Value} (h : ansIs v (self g args m) = true) : ∃ m1, self g args m = some (v, m1) ∧ lit2 v = true := by
  unfold ansIs at h
  split at h
  · rename_i u m1 hr
    simp only [Bool.and_eq_true] at h
    have := eqV_sound h.2
    subst this
    exact ⟨m1, hr, h.1⟩
  · cases h

section
variable {m : Mem} {s t : ByteArray}

theorem hex_call0 : ainv E (runK E mem2 K2 2000) 74 [.string ⟨#[]⟩] mem2 = some (.string ⟨#[]⟩, mem2) := by
  obtain ⟨m1, h, hv⟩ := run_ans (self := runK E mem2 K2 2000) (g := 74) (args := [.string ⟨#[]⟩]) (m := mem2) (v := .string ⟨#[]⟩) (by kernel_rfl)
  exact ainv_lit rfl (by kernel_rfl) (by rw [show (mem2.take E.G).map onlyTab = mem2 from rfl]; exact h) hv

theorem hex_call (hl : s.data.toList.length ≤ 1000) : ainv E (runK E mem2 K2 2000) 74 [.string s] mem2 = some (.string (bytesOfL (hexOf s.data.toList)), mem2) := by
  by_cases h0 : s.data.toList.length = 0
  · have : s = ⟨#[]⟩ := ba_eq (List.eq_nil_of_length_eq_zero h0)
    subst this
    exact hex_call0
  · obtain ⟨m1, h⟩ := hex_body (K := K2) (n := 1996) (nf := 2000) (m := (mem2.take E.G).map onlyTab) (s := s) rfl rfl rfl rfl rfl hl (by omega) (by omega)
    exact ainv_lit rfl (by kernel_rfl) ((runK_other rfl).trans h) rfl

end
end Go.Am.Seat

/-
  ShaKeys: a prime's round, and all of them (own work).
-/
set_option linter.unusedSimpArgs false
set_option linter.unusedVariables false
namespace Go.Am.Seat
open Go.Proofs Go.Am
set_option maxRecDepth 100000

section
variable {self : Self} {nf : Nat} {m : Mem} {F : Nat → Value}
theorem shk_7 : ∃ G, acodeN E self nf (.region 7 rshk_7 false) (lst F 94) m = some (.normal, lst G 94, m) ∧ G 1 = F 1 ∧ G 2 = F 2 ∧ G 3 = .bool true := by
  simp only [eshk_0, eshk_1, eshk_10, eshk_11, eshk_12, eshk_13, eshk_14, eshk_15, eshk_16, eshk_17, eshk_18, eshk_19, eshk_2, eshk_20, eshk_21, eshk_22, eshk_23, eshk_3, eshk_4, eshk_5, eshk_6, eshk_7, eshk_8, eshk_9, lshk_0, lshk_1, lshk_2, lshk_3, lshk_4, lshk_5, lshk_6, lshk_7, lshk_8, lshk_9, lshk_10, lshk_11, lshk_12, lshk_13, lshk_14, lshk_15, lshk_16, lshk_17, lshk_18, lshk_19, lshk_20, lshk_21, lshk_22, lshk_23, gshk_11_1, gshk_1_2, gshk_1_6, gshk_20_8, agd_none, gdAt, gdV_bool, gdV_undef, Tryd.f6, List.append_eq, List.cons_append, List.nil_append, apure_call1, apure_call2, apure_call3, bft, btf, acodeN, List.getElem?_toArray, List.getElem?_cons_zero, List.getElem?_cons_succ, aopsN, adrawT, cls, astep, aop, afloat, ev, nth_lst, get_lst, aput, setAt_lst, upd_at, init_zero, init_succ, init_nil, Nat.reduceLT, Nat.reduceEqDiff, reduceIte, len_N, abuiltin_app, Option.map_some, Option.map_none, orElse_some, apure_add, apure_eqlV, eqlVal_str, eqlVal_bool, eqlVal_ptr, eqlVal_slice, eqlVal_wide, eqlVal_int, allT, ↓aop_eqlV, apure_neq, List.map_cons, List.map_nil, List.all_cons, List.all_nil, lit2, lit1, lit0, List.isEmpty_nil, Bool.and_self, Bool.and_true, Bool.true_and, Bool.false_and, Bool.and_false, Bool.not_true, Bool.not_false, Bool.or_true, Bool.true_or, Bool.false_or, Bool.or_false, Bool.false_eq_true, if_true, if_false, List.length_map, beq_self_eq_true, und3, und4, und5, und9]
  exact ⟨_, rfl, by simp only [upd_at, Nat.reduceEqDiff, reduceIte], by simp only [upd_at, Nat.reduceEqDiff, reduceIte], by simp only [upd_at, Nat.reduceEqDiff, reduceIte]⟩
theorem shk_8 {p : Nat} (hp2 : 2 ≤ p) (hp : p < 512) (hnf : 1000 < nf) (h2 : F 2 = .int .i64 (p : Nat)) (h3 : F 3 = .bool true) (hpr : isP p = true) : ∃ G, acodeN E self nf (.seq (.region 8 rshk_8 false) (.block 2 (.loop lpshk_1))) (lst F 94) m = some (.normal, lst G 94, m) ∧ G 1 = F 1 ∧ G 2 = F 2 ∧ G 3 = .bool true := by
  obtain ⟨G, hl, g1, g2, g3⟩ := shk_l1 (self := self) (nf := nf) (m := m) (F := upd F 4 (.int .i64 2)) hp2 (by omega) hnf (by simp only [upd_at, Nat.reduceEqDiff, reduceIte, h2]) (by simp only [upd_at, Nat.reduceEqDiff, reduceIte, h3]) (by simp only [upd_at, Nat.reduceEqDiff, reduceIte])
  simp only [upd_at, Nat.reduceEqDiff, reduceIte] at g1 g2
  rw [hpr] at g3
  simp only [eshk_0, eshk_1, eshk_10, eshk_11, eshk_12, eshk_13, eshk_14, eshk_15, eshk_16, eshk_17, eshk_18, eshk_19, eshk_2, eshk_20, eshk_21, eshk_22, eshk_23, eshk_3, eshk_4, eshk_5, eshk_6, eshk_7, eshk_8, eshk_9, lshk_0, lshk_1, lshk_2, lshk_3, lshk_4, lshk_5, lshk_6, lshk_7, lshk_8, lshk_9, lshk_10, lshk_11, lshk_12, lshk_13, lshk_14, lshk_15, lshk_16, lshk_17, lshk_18, lshk_19, lshk_20, lshk_21, lshk_22, lshk_23, gshk_11_1, gshk_1_2, gshk_1_6, gshk_20_8, agd_none, gdAt, gdV_bool, gdV_undef, Tryd.f6, List.append_eq, List.cons_append, List.nil_append, apure_call1, apure_call2, apure_call3, bft, btf, acodeN, List.getElem?_toArray, List.getElem?_cons_zero, List.getElem?_cons_succ, aopsN, adrawT, cls, astep, aop, afloat, ev, nth_lst, get_lst, aput, setAt_lst, upd_at, init_zero, init_succ, init_nil, Nat.reduceLT, Nat.reduceEqDiff, reduceIte, len_N, abuiltin_app, Option.map_some, Option.map_none, orElse_some, apure_add, apure_eqlV, eqlVal_str, eqlVal_bool, eqlVal_ptr, eqlVal_slice, eqlVal_wide, eqlVal_int, allT, ↓aop_eqlV, apure_neq, List.map_cons, List.map_nil, List.all_cons, List.all_nil, lit2, lit1, lit0, List.isEmpty_nil, Bool.and_self, Bool.and_true, Bool.true_and, Bool.false_and, Bool.and_false, Bool.not_true, Bool.not_false, Bool.or_true, Bool.true_or, Bool.false_or, Bool.or_false, Bool.false_eq_true, if_true, if_false, List.length_map, beq_self_eq_true, und3, und4, und5, und9, hl]
  exact ⟨G, rfl, g1, g2, g3⟩
theorem shk_12 (h3 : F 3 = .bool true) : ∃ G, acodeN E self nf (.seq (.region 12 rshk_12 false) (.cond (.tmp 37) (.exit 1) .skip)) (lst F 94) m = some (.normal, lst G 94, m) ∧ G 1 = F 1 ∧ G 2 = F 2 := by
  simp only [eshk_0, eshk_1, eshk_10, eshk_11, eshk_12, eshk_13, eshk_14, eshk_15, eshk_16, eshk_17, eshk_18, eshk_19, eshk_2, eshk_20, eshk_21, eshk_22, eshk_23, eshk_3, eshk_4, eshk_5, eshk_6, eshk_7, eshk_8, eshk_9, lshk_0, lshk_1, lshk_2, lshk_3, lshk_4, lshk_5, lshk_6, lshk_7, lshk_8, lshk_9, lshk_10, lshk_11, lshk_12, lshk_13, lshk_14, lshk_15, lshk_16, lshk_17, lshk_18, lshk_19, lshk_20, lshk_21, lshk_22, lshk_23, gshk_11_1, gshk_1_2, gshk_1_6, gshk_20_8, agd_none, gdAt, gdV_bool, gdV_undef, Tryd.f6, List.append_eq, List.cons_append, List.nil_append, apure_call1, apure_call2, apure_call3, bft, btf, acodeN, List.getElem?_toArray, List.getElem?_cons_zero, List.getElem?_cons_succ, aopsN, adrawT, cls, astep, aop, afloat, ev, nth_lst, get_lst, aput, setAt_lst, upd_at, init_zero, init_succ, init_nil, Nat.reduceLT, Nat.reduceEqDiff, reduceIte, len_N, abuiltin_app, Option.map_some, Option.map_none, orElse_some, apure_add, apure_eqlV, eqlVal_str, eqlVal_bool, eqlVal_ptr, eqlVal_slice, eqlVal_wide, eqlVal_int, allT, ↓aop_eqlV, apure_neq, List.map_cons, List.map_nil, List.all_cons, List.all_nil, lit2, lit1, lit0, List.isEmpty_nil, Bool.and_self, Bool.and_true, Bool.true_and, Bool.false_and, Bool.and_false, Bool.not_true, Bool.not_false, Bool.or_true, Bool.true_or, Bool.false_or, Bool.or_false, Bool.false_eq_true, if_true, if_false, List.length_map, beq_self_eq_true, und3, und4, und5, und9, h3, apure_un, notB]
  exact ⟨_, rfl, by simp only [upd_at, Nat.reduceEqDiff, reduceIte], by simp only [upd_at, Nat.reduceEqDiff, reduceIte]⟩
theorem shk_13 : ∃ G, acodeN E self nf (.region 13 rshk_13 false) (lst F 94) m = some (.normal, lst G 94, m) ∧ G 1 = F 1 ∧ G 2 = F 2 ∧ G 5 = .int .i64 1 := by
  simp only [eshk_0, eshk_1, eshk_10, eshk_11, eshk_12, eshk_13, eshk_14, eshk_15, eshk_16, eshk_17, eshk_18, eshk_19, eshk_2, eshk_20, eshk_21, eshk_22, eshk_23, eshk_3, eshk_4, eshk_5, eshk_6, eshk_7, eshk_8, eshk_9, lshk_0, lshk_1, lshk_2, lshk_3, lshk_4, lshk_5, lshk_6, lshk_7, lshk_8, lshk_9, lshk_10, lshk_11, lshk_12, lshk_13, lshk_14, lshk_15, lshk_16, lshk_17, lshk_18, lshk_19, lshk_20, lshk_21, lshk_22, lshk_23, gshk_11_1, gshk_1_2, gshk_1_6, gshk_20_8, agd_none, gdAt, gdV_bool, gdV_undef, Tryd.f6, List.append_eq, List.cons_append, List.nil_append, apure_call1, apure_call2, apure_call3, bft, btf, acodeN, List.getElem?_toArray, List.getElem?_cons_zero, List.getElem?_cons_succ, aopsN, adrawT, cls, astep, aop, afloat, ev, nth_lst, get_lst, aput, setAt_lst, upd_at, init_zero, init_succ, init_nil, Nat.reduceLT, Nat.reduceEqDiff, reduceIte, len_N, abuiltin_app, Option.map_some, Option.map_none, orElse_some, apure_add, apure_eqlV, eqlVal_str, eqlVal_bool, eqlVal_ptr, eqlVal_slice, eqlVal_wide, eqlVal_int, allT, ↓aop_eqlV, apure_neq, List.map_cons, List.map_nil, List.all_cons, List.all_nil, lit2, lit1, lit0, List.isEmpty_nil, Bool.and_self, Bool.and_true, Bool.true_and, Bool.false_and, Bool.and_false, Bool.not_true, Bool.not_false, Bool.or_true, Bool.true_or, Bool.false_or, Bool.or_false, Bool.false_eq_true, if_true, if_false, List.length_map, beq_self_eq_true, und3, und4, und5, und9]
  exact ⟨_, rfl, by simp only [upd_at, Nat.reduceEqDiff, reduceIte], by simp only [upd_at, Nat.reduceEqDiff, reduceIte], by simp only [upd_at, Nat.reduceEqDiff, reduceIte]⟩
theorem shk_14 {p : Nat} (hp2 : 1 ≤ p) (hp : p < 512) (hnf : 1000 < nf) (h2 : F 2 = .int .i64 (p : Nat)) (h5 : F 5 = .int .i64 1) : ∃ G w, acodeN E self nf (.block 4 (.loop lpshk_2)) (lst F 94) m = some (.normal, lst G 94, m) ∧ G 1 = F 1 ∧ G 2 = F 2 ∧ G 5 = .int .i64 (w : Nat) ∧ 1 ≤ w ∧ w < 9 ∧ w * w * w ≤ p ∧ p < (w + 1) * (w + 1) * (w + 1) := by
  obtain ⟨H, w, hl2, k⟩ := shk_l2 (self := self) (nf := nf) (m := m) (F := F) hp2 hp hnf h2 h5
  simp only [List.append_eq, List.cons_append, List.nil_append, apure_call1, apure_call2, apure_call3, bft, btf, acodeN, List.getElem?_toArray, List.getElem?_cons_zero, List.getElem?_cons_succ, aopsN, adrawT, cls, astep, aop, afloat, ev, nth_lst, get_lst, aput, setAt_lst, upd_at, init_zero, init_succ, init_nil, Nat.reduceLT, Nat.reduceEqDiff, reduceIte, len_N, abuiltin_app, Option.map_some, Option.map_none, orElse_some, apure_add, apure_eqlV, eqlVal_str, eqlVal_bool, eqlVal_ptr, eqlVal_slice, eqlVal_wide, eqlVal_int, allT, ↓aop_eqlV, apure_neq, List.map_cons, List.map_nil, List.all_cons, List.all_nil, lit2, lit1, lit0, List.isEmpty_nil, Bool.and_self, Bool.and_true, Bool.true_and, Bool.false_and, Bool.and_false, Bool.not_true, Bool.not_false, Bool.or_true, Bool.true_or, Bool.false_or, Bool.or_false, Bool.false_eq_true, if_true, if_false, List.length_map, beq_self_eq_true, und3, und4, und5, und9, hl2]
  exact ⟨H, w, rfl, k⟩
theorem shk_22 {n : Nat} (hn : n < 1000) (h1 : F 1 = .int .i64 (n : Nat)) : ∃ G, acodeN E self nf (.region 22 rshk_22 false) (lst F 94) m = some (.normal, lst G 94, m) ∧ G 1 = .int .i64 ((n + 1 : Nat) : Int) ∧ G 2 = F 2 := by
  have e1 := w1 (i := n) (by omega)
  simp only [eshk_0, eshk_1, eshk_10, eshk_11, eshk_12, eshk_13, eshk_14, eshk_15, eshk_16, eshk_17, eshk_18, eshk_19, eshk_2, eshk_20, eshk_21, eshk_22, eshk_23, eshk_3, eshk_4, eshk_5, eshk_6, eshk_7, eshk_8, eshk_9, lshk_0, lshk_1, lshk_2, lshk_3, lshk_4, lshk_5, lshk_6, lshk_7, lshk_8, lshk_9, lshk_10, lshk_11, lshk_12, lshk_13, lshk_14, lshk_15, lshk_16, lshk_17, lshk_18, lshk_19, lshk_20, lshk_21, lshk_22, lshk_23, gshk_11_1, gshk_1_2, gshk_1_6, gshk_20_8, agd_none, gdAt, gdV_bool, gdV_undef, Tryd.f6, List.append_eq, List.cons_append, List.nil_append, apure_call1, apure_call2, apure_call3, bft, btf, acodeN, List.getElem?_toArray, List.getElem?_cons_zero, List.getElem?_cons_succ, aopsN, adrawT, cls, astep, aop, afloat, ev, nth_lst, get_lst, aput, setAt_lst, upd_at, init_zero, init_succ, init_nil, Nat.reduceLT, Nat.reduceEqDiff, reduceIte, len_N, abuiltin_app, Option.map_some, Option.map_none, orElse_some, apure_add, apure_eqlV, eqlVal_str, eqlVal_bool, eqlVal_ptr, eqlVal_slice, eqlVal_wide, eqlVal_int, allT, ↓aop_eqlV, apure_neq, List.map_cons, List.map_nil, List.all_cons, List.all_nil, lit2, lit1, lit0, List.isEmpty_nil, Bool.and_self, Bool.and_true, Bool.true_and, Bool.false_and, Bool.and_false, Bool.not_true, Bool.not_false, Bool.or_true, Bool.true_or, Bool.false_or, Bool.or_false, Bool.false_eq_true, if_true, if_false, List.length_map, beq_self_eq_true, und3, und4, und5, und9, h1, add64', e1]
  exact ⟨_, rfl, by simp only [upd_at, Nat.reduceEqDiff, reduceIte], by simp only [upd_at, Nat.reduceEqDiff, reduceIte]⟩
theorem shk_6 {p : Nat} (hn : p < 1000) (h1 : F 2 = .int .i64 (p : Nat)) : ∃ G, acodeN E self nf (.region 6 rshk_6 false) (lst F 94) m = some (.normal, lst G 94, m) ∧ G 2 = .int .i64 ((p + 1 : Nat) : Int) ∧ G 1 = F 1 := by
  have e1 := w1 (i := p) (by omega)
  simp only [eshk_0, eshk_1, eshk_10, eshk_11, eshk_12, eshk_13, eshk_14, eshk_15, eshk_16, eshk_17, eshk_18, eshk_19, eshk_2, eshk_20, eshk_21, eshk_22, eshk_23, eshk_3, eshk_4, eshk_5, eshk_6, eshk_7, eshk_8, eshk_9, lshk_0, lshk_1, lshk_2, lshk_3, lshk_4, lshk_5, lshk_6, lshk_7, lshk_8, lshk_9, lshk_10, lshk_11, lshk_12, lshk_13, lshk_14, lshk_15, lshk_16, lshk_17, lshk_18, lshk_19, lshk_20, lshk_21, lshk_22, lshk_23, gshk_11_1, gshk_1_2, gshk_1_6, gshk_20_8, agd_none, gdAt, gdV_bool, gdV_undef, Tryd.f6, List.append_eq, List.cons_append, List.nil_append, apure_call1, apure_call2, apure_call3, bft, btf, acodeN, List.getElem?_toArray, List.getElem?_cons_zero, List.getElem?_cons_succ, aopsN, adrawT, cls, astep, aop, afloat, ev, nth_lst, get_lst, aput, setAt_lst, upd_at, init_zero, init_succ, init_nil, Nat.reduceLT, Nat.reduceEqDiff, reduceIte, len_N, abuiltin_app, Option.map_some, Option.map_none, orElse_some, apure_add, apure_eqlV, eqlVal_str, eqlVal_bool, eqlVal_ptr, eqlVal_slice, eqlVal_wide, eqlVal_int, allT, ↓aop_eqlV, apure_neq, List.map_cons, List.map_nil, List.all_cons, List.all_nil, lit2, lit1, lit0, List.isEmpty_nil, Bool.and_self, Bool.and_true, Bool.true_and, Bool.false_and, Bool.and_false, Bool.not_true, Bool.not_false, Bool.or_true, Bool.true_or, Bool.false_or, Bool.or_false, Bool.false_eq_true, if_true, if_false, List.length_map, beq_self_eq_true, und3, und4, und5, und9, h1, add64', e1]
  exact ⟨_, rfl, by simp only [upd_at, Nat.reduceEqDiff, reduceIte], by simp only [upd_at, Nat.reduceEqDiff, reduceIte]⟩
theorem shk_5 {n : Nat} {t : Bool} (h1 : F 1 = .int .i64 (n : Nat)) (ht : decide (((n : Nat) : Int) < 80) = t) : ∃ G, acodeN E self nf (.region 5 rshk_5 false) (lst F 94) m = some (.normal, lst G 94, m) ∧ G 21 = .bool t ∧ G 1 = F 1 ∧ G 2 = F 2 := by
  simp only [eshk_0, eshk_1, eshk_10, eshk_11, eshk_12, eshk_13, eshk_14, eshk_15, eshk_16, eshk_17, eshk_18, eshk_19, eshk_2, eshk_20, eshk_21, eshk_22, eshk_23, eshk_3, eshk_4, eshk_5, eshk_6, eshk_7, eshk_8, eshk_9, lshk_0, lshk_1, lshk_2, lshk_3, lshk_4, lshk_5, lshk_6, lshk_7, lshk_8, lshk_9, lshk_10, lshk_11, lshk_12, lshk_13, lshk_14, lshk_15, lshk_16, lshk_17, lshk_18, lshk_19, lshk_20, lshk_21, lshk_22, lshk_23, gshk_11_1, gshk_1_2, gshk_1_6, gshk_20_8, agd_none, gdAt, gdV_bool, gdV_undef, Tryd.f6, List.append_eq, List.cons_append, List.nil_append, apure_call1, apure_call2, apure_call3, bft, btf, acodeN, List.getElem?_toArray, List.getElem?_cons_zero, List.getElem?_cons_succ, aopsN, adrawT, cls, astep, aop, afloat, ev, nth_lst, get_lst, aput, setAt_lst, upd_at, init_zero, init_succ, init_nil, Nat.reduceLT, Nat.reduceEqDiff, reduceIte, len_N, abuiltin_app, Option.map_some, Option.map_none, orElse_some, apure_add, apure_eqlV, eqlVal_str, eqlVal_bool, eqlVal_ptr, eqlVal_slice, eqlVal_wide, eqlVal_int, allT, ↓aop_eqlV, apure_neq, List.map_cons, List.map_nil, List.all_cons, List.all_nil, lit2, lit1, lit0, List.isEmpty_nil, Bool.and_self, Bool.and_true, Bool.true_and, Bool.false_and, Bool.and_false, Bool.not_true, Bool.not_false, Bool.or_true, Bool.true_or, Bool.false_or, Bool.or_false, Bool.false_eq_true, if_true, if_false, List.length_map, beq_self_eq_true, und3, und4, und5, und9, h1, lss64, ht]
  exact ⟨_, rfl, by simp only [upd_at, Nat.reduceEqDiff, reduceIte], by simp only [upd_at, Nat.reduceEqDiff, reduceIte, h1], by simp only [upd_at, Nat.reduceEqDiff, reduceIte]⟩
theorem shk_19' {G : Nat → Value} {m' : Mem} (h : amk E self rshk_19 (lst F 94) m = some (lst G 94, m')) : acodeN E self nf (.region 19 rshk_19 true) (lst F 94) m = some (.normal, lst G 94, m') := by
  simp only [eshk_0, eshk_1, eshk_10, eshk_11, eshk_12, eshk_13, eshk_14, eshk_15, eshk_16, eshk_17, eshk_18, eshk_19, eshk_2, eshk_20, eshk_21, eshk_22, eshk_23, eshk_3, eshk_4, eshk_5, eshk_6, eshk_7, eshk_8, eshk_9, lshk_0, lshk_1, lshk_2, lshk_3, lshk_4, lshk_5, lshk_6, lshk_7, lshk_8, lshk_9, lshk_10, lshk_11, lshk_12, lshk_13, lshk_14, lshk_15, lshk_16, lshk_17, lshk_18, lshk_19, lshk_20, lshk_21, lshk_22, lshk_23, gshk_11_1, gshk_1_2, gshk_1_6, gshk_20_8, agd_none, gdAt, gdV_bool, gdV_undef, Tryd.f6, List.append_eq, List.cons_append, List.nil_append, apure_call1, apure_call2, apure_call3, bft, btf, acodeN, List.getElem?_toArray, List.getElem?_cons_zero, List.getElem?_cons_succ, aopsN, adrawT, cls, astep, aop, afloat, ev, nth_lst, get_lst, aput, setAt_lst, upd_at, init_zero, init_succ, init_nil, Nat.reduceLT, Nat.reduceEqDiff, reduceIte, len_N, abuiltin_app, Option.map_some, Option.map_none, orElse_some, apure_add, apure_eqlV, eqlVal_str, eqlVal_bool, eqlVal_ptr, eqlVal_slice, eqlVal_wide, eqlVal_int, allT, ↓aop_eqlV, apure_neq, List.map_cons, List.map_nil, List.all_cons, List.all_nil, lit2, lit1, lit0, List.isEmpty_nil, Bool.and_self, Bool.and_true, Bool.true_and, Bool.false_and, Bool.and_false, Bool.not_true, Bool.not_false, Bool.or_true, Bool.true_or, Bool.false_or, Bool.or_false, Bool.false_eq_true, if_true, if_false, List.length_map, beq_self_eq_true, und3, und4, und5, und9, sr19k, mk19k, h]
theorem numz {p : Nat} (hp : p < 410) : p * 6277101735386680763835789423207666416102355444464034512896 < 256 ^ 100 := Nat.lt_of_le_of_lt (Nat.mul_le_mul_right _ (Nat.le_of_lt hp)) (Nat.le_of_ble_eq_true (by kernel_rfl))
theorem numb {w k : Nat} (hw : w < 9) (hk : k < 18446744073709551616) : w * 18446744073709551616 + k + 1 < 256 ^ 20 := by omega
/-- A prime. -/
theorem shk_one (kc : KeyCalls self) {p : Nat} (hp2 : 2 ≤ p) (hp : p < 410) (hnf : 1000 < nf) (h1 : F 1 = .int .i64 (cntP p : Nat)) (h2 : F 2 = .int .i64 (p : Nat)) (hpr : isP p = true) (hT : KT m) :
    ∃ F' m', acodeN E self nf lpshk_0 (lst F 94) m = some (.normal, lst F' 94, m') ∧ F' 1 = .int .i64 ((cntP p + 1 : Nat) : Int) ∧ F' 2 = .int .i64 ((p + 1 : Nat) : Int) ∧ Kept m m' := by
  have hn := cnt_lt hp
  have hok := List.all_eq_true.1 okP_all p (List.mem_range.2 hp)
  obtain ⟨A, ra, a21, a1, a2⟩ := shk_5 (self := self) (nf := nf) (m := m) (t := true) h1 (decide_eq_true (by omega))
  obtain ⟨B1, rb1, b11, b12, b13⟩ := shk_7 (self := self) (nf := nf) (m := m) (F := A)
  obtain ⟨B2, rb2, b21, b22, b23⟩ := shk_8 (self := self) (nf := nf) (m := m) (F := B1) hp2 (by omega) hnf (b12.trans (a2.trans h2)) b13 hpr
  obtain ⟨B3, rb3, b31, b32⟩ := shk_12 (self := self) (nf := nf) (m := m) (F := B2) b23
  obtain ⟨B4, rb4, b41, b42, b45⟩ := shk_13 (self := self) (nf := nf) (m := m) (F := B3)
  have hB2 : B4 2 = .int .i64 (p : Nat) := b42.trans (b32.trans (b22.trans (b12.trans (a2.trans h2))))
  obtain ⟨B, w, rb, b1, b2, b5, hw1, hw9, hwl, hwg⟩ := shk_14 (self := self) (nf := nf) (m := m) (F := B4) (p := p) (by omega) (by omega) hnf hB2 b45
  have b1 : B 1 = .int .i64 (cntP p : Nat) := b1.trans (b41.trans (b31.trans (b21.trans (b11.trans (a1.trans h1)))))
  have b2 : B 2 = .int .i64 (p : Nat) := b2.trans hB2
  unfold okP at hok
  rw [hpr, decide_eq_true hp2] at hok
  simp only [Bool.and_self, Bool.not_true, Bool.false_or, Bool.and_eq_true, decide_eq_true_eq] at hok
  obtain ⟨_, hk, hall⟩ := hok
  have hchk := List.all_eq_true.1 hall w (List.mem_range.2 hw9)
  rw [decide_eq_true hw1, decide_eq_true hwl, decide_eq_true hwg] at hchk
  simp only [Bool.and_self, Bool.not_true, Bool.false_or, Bool.and_eq_true, decide_eq_true_eq] at hchk
  obtain ⟨c1, c2⟩ := hchk
  generalize hkk : keyN (cntP p) = kk at hk c1 c2
  obtain ⟨C, m3, rc, c6, cc1, cc2, cc5, k3⟩ := shk_16 (self := self) (nf := nf) (m := m) (F := B) kc.co
  obtain ⟨D, m4, rd, d7, d1, d2, k4⟩ := shk_17 (self := self) (nf := nf) (m := m3) (F := C) kc.cs kc.cm kc.ca (w := w) (n := cntP p) (k := kk) (by omega) hk (cc1.trans b1) (cc5.trans b5) c6 (fun m' hm => by rw [← hkk]; exact kc.ck m' _ hn ((hT.on k3).on hm))
  have hb := numb hw9 hk
  obtain ⟨H, m5, re, e8, e7, e1, e2, k5⟩ := shk_18 (self := self) (nf := nf) (m := m4) (F := D) kc.cs kc.ca (Nat.lt_of_succ_lt hb) d7
  obtain ⟨I, m6, rf, f9, f1, f2, f7, f8, k6⟩ := shk_19 (self := self) (m := m5) (F := H) (x := 0) kc.cs kc.co kc.cm (p := p) (by omega) (e2.trans (d2.trans (cc2.trans b2)))
  have rf' := shk_19' (nf := nf) rf
  obtain ⟨J, m7, rg, g91, g1, g2, k7⟩ := shk_20 (self := self) (nf := nf) (m := m6) (F := I) kc.cm kc.cc (x := w * 18446744073709551616 + kk) (y := w * 18446744073709551616 + kk + 1) (z := p * 6277101735386680763835789423207666416102355444464034512896) (Nat.lt_of_succ_lt hb) hb (numz hp) (by rw [f7]; exact e7.on k6) (by rw [f8]; exact e8.on k6) f9 c1 c2
  have j1 : J 1 = .int .i64 (cntP p : Nat) := g1.trans (f1.trans (e1.trans (d1.trans (cc1.trans b1))))
  have j2 : J 2 = .int .i64 (p : Nat) := g2.trans (f2.trans (e2.trans (d2.trans (cc2.trans b2))))
  obtain ⟨K, rk, kk1, kk2⟩ := shk_22 (self := self) (nf := nf) (m := m7) (F := J) (by omega) j1
  obtain ⟨L, rl, l2, l1⟩ := shk_6 (self := self) (nf := nf) (m := m7) (F := K) (p := p) (by omega) (kk2.trans j2)
  refine ⟨L, m7, ?_, l1.trans kk1, l2, k3.trans (k4.trans (k5.trans (k6.trans k7)))⟩
  rw [lpshk_0_eq]
  generalize Code.region 5 rshk_5 false = C5 at *
  generalize Code.region 7 rshk_7 false = C7 at *
  generalize Code.seq (Code.region 8 rshk_8 false) (Code.block 2 (Code.loop lpshk_1)) = C8 at *
  generalize Code.seq (Code.region 12 rshk_12 false) (Code.cond (Operand.tmp 37) (Code.exit 1) Code.skip) = C12 at *
  generalize Code.region 13 rshk_13 false = C13 at *
  generalize Code.block 4 (Code.loop lpshk_2) = C14 at *
  generalize Code.region 16 rshk_16 false = C16 at *
  generalize Code.region 17 rshk_17 false = C17 at *
  generalize Code.region 18 rshk_18 false = C18 at *
  generalize Code.region 19 rshk_19 true = C19 at *
  generalize Code.region 20 rshk_20 false = C20 at *
  generalize Code.region 21 rshk_21 false = C21 at *
  generalize Code.region 22 rshk_22 false = C22 at *
  generalize Code.region 6 rshk_6 false = C6 at *
  simp only [acodeN, ra, ev, nth_lst, Nat.reduceLT, if_true, a21, rb1, rb2, rb3, rb4, rb, rc, rd, re, rf', rg, g91, rk, rl]
end
end Go.Am.Seat

/-
  ShaKeys: the law (own work).
-/
set_option linter.unusedSimpArgs false
set_option linter.unusedVariables false
namespace Go.Am.Seat
open Go.Proofs Go.Am
set_option maxRecDepth 100000

theorem callAw2 : callableB E.P 32 = true := by kernel_rfl
theorem neqU0 : abin .neq .u64 0 .u64 0 = some (.bool false) := by kernel_rfl
section
variable {self : Self} {nf : Nat} {m : Mem} {F : Nat → Value}
theorem shk_last (h1 : F 1 = .int .i64 80) : ∃ G, acodeN E self nf lpshk_0 (lst F 94) m = some (.exit 0, lst G 94, m) := by
  have q0 : decide ((80 : Int) < 80) = false := rfl
  simp only [lpshk_0_eq, eshk_0, eshk_1, eshk_10, eshk_11, eshk_12, eshk_13, eshk_14, eshk_15, eshk_16, eshk_17, eshk_18, eshk_19, eshk_2, eshk_20, eshk_21, eshk_22, eshk_23, eshk_3, eshk_4, eshk_5, eshk_6, eshk_7, eshk_8, eshk_9, lshk_0, lshk_1, lshk_2, lshk_3, lshk_4, lshk_5, lshk_6, lshk_7, lshk_8, lshk_9, lshk_10, lshk_11, lshk_12, lshk_13, lshk_14, lshk_15, lshk_16, lshk_17, lshk_18, lshk_19, lshk_20, lshk_21, lshk_22, lshk_23, gshk_11_1, gshk_1_2, gshk_1_6, gshk_20_8, agd_none, gdAt, gdV_bool, gdV_undef, Tryd.f6, List.append_eq, List.cons_append, List.nil_append, apure_call1, apure_call2, apure_call3, bft, btf, acodeN, List.getElem?_toArray, List.getElem?_cons_zero, List.getElem?_cons_succ, aopsN, adrawT, cls, astep, aop, afloat, ev, nth_lst, get_lst, aput, setAt_lst, upd_at, init_zero, init_succ, init_nil, Nat.reduceLT, Nat.reduceEqDiff, reduceIte, len_N, abuiltin_app, Option.map_some, Option.map_none, orElse_some, apure_add, apure_eqlV, eqlVal_str, eqlVal_bool, eqlVal_ptr, eqlVal_slice, eqlVal_wide, eqlVal_int, allT, ↓aop_eqlV, apure_neq, List.map_cons, List.map_nil, List.all_cons, List.all_nil, lit2, lit1, lit0, List.isEmpty_nil, Bool.and_self, Bool.and_true, Bool.true_and, Bool.false_and, Bool.and_false, Bool.not_true, Bool.not_false, Bool.or_true, Bool.true_or, Bool.false_or, Bool.or_false, Bool.false_eq_true, if_true, if_false, List.length_map, beq_self_eq_true, und3, und4, und5, und9, h1, lss64, q0]
  exact ⟨_, rfl⟩
theorem shk_body (kc : KeyCalls self) (hnf : 1000 < nf) (hT : KT m) (aw : ainv E self 32 [] m = some (.bool true, m)) (k1 : ainv E self 33 [.int .i64 (-1)] m = some (.int .u64 0, m)) (k2 : ainv E self 33 [.int .i64 80] m = some (.int .u64 0, m)) :
    ∃ m', abody E self nf 6 [] m = some (.bool true, m') := by
  rw [abody_eqF (by kernel_rfl) Tryd.func6 bodyshk (by kernel_rfl) (Nat.le_of_ble_eq_true rfl)]
  rw [show Tryd.f6.ntmps = 94 from rfl]
  have hl := aloop_inv (body := acodeN E self nf lpshk_0) (N := 408)
    (I := fun k T m' => ∃ G, T = lst G 94 ∧ Kept m m' ∧ G 1 = .int .i64 ((cntP (k + 2) : Nat) : Int) ∧ G 2 = .int .i64 ((k + 2 : Nat) : Int))
    (Q := fun e T m' => e = .exit 0 ∧ ∃ G, T = lst G 94) (fun k T m' hk hI => by
      obtain ⟨G, rfl, hK, g1, g2⟩ := hI
      by_cases hlt : k < 408
      · left
        have hcs : cntP (k + 2 + 1) = cntP (k + 2) + (if decide (2 ≤ k + 2) && isP (k + 2) then 1 else 0) := rfl
        rw [decide_eq_true (show 2 ≤ k + 2 by omega)] at hcs
        by_cases hp : isP (k + 2) = true
        · obtain ⟨F', m2, hr, f1, f2, hK2⟩ := shk_one (self := self) (nf := nf) (m := m') kc (p := k + 2) (by omega) (by omega) hnf g1 g2 hp (hT.on hK)
          refine ⟨_, _, hr, hlt, F', rfl, hK.trans hK2, ?_, f2⟩
          rw [f1]
          rw [hp] at hcs
          rw [show k + 1 + 2 = k + 2 + 1 by omega, hcs]
          rfl
        · have hp' : isP (k + 2) = false := by simpa using hp
          obtain ⟨F', hr, f1, f2⟩ := shk_none (self := self) (nf := nf) (m := m') (p := k + 2) (n := cntP (k + 2)) (by omega) (by omega) (cnt_lt (by omega)) hnf g1 g2 hp'
          refine ⟨_, _, hr, hlt, F', rfl, hK, ?_, f2⟩
          rw [f1]
          rw [hp'] at hcs
          rw [show k + 1 + 2 = k + 2 + 1 by omega, hcs]
          rfl
      · right
        have hk9 : k = 408 := by omega
        subst hk9
        rw [show 408 + 2 = 410 from rfl, cnt_last] at g1
        obtain ⟨F', hr⟩ := shk_last (self := self) (nf := nf) (m := m') g1
        exact ⟨_, _, _, hr, by simp, rfl, F', rfl⟩)
  obtain ⟨e, T', m', hr, rfl, G, rfl⟩ := hl 408 0 nf (lst (upd (upd (upd (upd (upd (upd (upd (upd (upd (upd (upd (upd (upd (init []) 0 (.bool false)) 10 (.bool true)) 11 (.bool false)) 12 (.bool false)) 13 (.int .u64 0)) 14 (.bool false)) 15 (.bool false)) 16 (.bool false)) 17 (.int .u64 0)) 18 (.bool false)) 19 (.bool false)) 1 (.int .i64 0)) 2 (.int .i64 2)) 94) m (by omega) (by omega) ⟨_, rfl, Kept.refl _, by rw [show 0 + 2 = 2 from rfl, cnt_two]; rfl, rfl⟩
  simp only [eshk_0, eshk_1, eshk_10, eshk_11, eshk_12, eshk_13, eshk_14, eshk_15, eshk_16, eshk_17, eshk_18, eshk_19, eshk_2, eshk_20, eshk_21, eshk_22, eshk_23, eshk_3, eshk_4, eshk_5, eshk_6, eshk_7, eshk_8, eshk_9, lshk_0, lshk_1, lshk_2, lshk_3, lshk_4, lshk_5, lshk_6, lshk_7, lshk_8, lshk_9, lshk_10, lshk_11, lshk_12, lshk_13, lshk_14, lshk_15, lshk_16, lshk_17, lshk_18, lshk_19, lshk_20, lshk_21, lshk_22, lshk_23, gshk_11_1, gshk_1_2, gshk_1_6, gshk_20_8, agd_none, gdAt, gdV_bool, gdV_undef, Tryd.f6, List.append_eq, List.cons_append, List.nil_append, apure_call1, apure_call2, apure_call3, bft, btf, acodeN, List.getElem?_toArray, List.getElem?_cons_zero, List.getElem?_cons_succ, aopsN, adrawT, cls, astep, aop, afloat, ev, nth_lst, get_lst, aput, setAt_lst, upd_at, init_zero, init_succ, init_nil, Nat.reduceLT, Nat.reduceEqDiff, reduceIte, len_N, abuiltin_app, Option.map_some, Option.map_none, orElse_some, apure_add, apure_eqlV, eqlVal_str, eqlVal_bool, eqlVal_ptr, eqlVal_slice, eqlVal_wide, eqlVal_int, allT, ↓aop_eqlV, apure_neq, List.map_cons, List.map_nil, List.all_cons, List.all_nil, lit2, lit1, lit0, List.isEmpty_nil, Bool.and_self, Bool.and_true, Bool.true_and, Bool.false_and, Bool.and_false, Bool.not_true, Bool.not_false, Bool.or_true, Bool.true_or, Bool.false_or, Bool.or_false, Bool.false_eq_true, if_true, if_false, List.length_map, beq_self_eq_true, und3, und4, und5, und9, callAw2, aw, apure_un, notB, callKey, k1, k2, neqU0, hr, finish, ares, aresL, ares1]
  exact ⟨_, rfl⟩
end

theorem keys_run : ((List.range 80).all fun n => ansIs (.int .u64 ((keyN n : Nat) : Int)) (runK E mem2 K2 2000 33 [.int .i64 ((n : Nat) : Int)] mem2)) = true := by kernel_rfl
theorem key_m1 : ansIs (.int .u64 0) (runK E mem2 K2 2000 33 [.int .i64 (-1)] mem2) = true := by kernel_rfl
theorem key_80 : ansIs (.int .u64 0) (runK E mem2 K2 2000 33 [.int .i64 80] mem2) = true := by kernel_rfl
theorem key_call {n v : Int} {m : Mem} (hT : KT m) (h : ansIs (.int .u64 v) (runK E mem2 K2 2000 33 [.int .i64 n] mem2) = true) : ainv E (runK E mem2 K2 2000) 33 [.int .i64 n] m = some (.int .u64 v, m) := by
  obtain ⟨m1, h1, hv⟩ := run_ans h
  exact ainv_lit rfl (by kernel_rfl) (by rw [hT.2]; exact h1) hv
theorem keyCalls : KeyCalls (runK E mem2 K2 2000) where
  cs := csmall (R := fun n => runK E mem2 K2 n) (K := K2) (n := 1999) (runsK mem2 K2) rfl (by omega)
  co := cof (R := fun n => runK E mem2 K2 n) (K := K2) (n := 1998) (runsK mem2 K2) rfl rfl (by omega)
  cm := cmul (R := fun n => runK E mem2 K2 n) (K := K2) (n := 1998) (runsK mem2 K2) rfl rfl (by omega)
  ca := cadd (R := fun n => runK E mem2 K2 n) (K := K2) (n := 1998) (runsK mem2 K2) rfl rfl (by omega)
  cc := ccmp (R := fun n => runK E mem2 K2 n) (K := K2) (n := 1999) (runsK mem2 K2) rfl (by omega)
  ck := fun m n hn hT => key_call hT (List.all_eq_true.1 keys_run n (List.mem_range.2 hn))
theorem KT2 : KT mem2 := ⟨Nat.le_of_ble_eq_true (by kernel_rfl), rfl⟩
/-- The law. -/
theorem lawSK : ∃ m', runK E mem2 K2 2001 6 [] mem2 = some (.bool true, m') := by
  rw [runK_other (rfl : hasF K2 6 = false)]
  exact shk_body keyCalls (by omega) KT2 awake_call (key_call KT2 key_m1) (key_call KT2 key_80)
end Go.Am.Seat

/-
  The abstract memory at a law's start: tables that are laid, and package variables of which nothing is said (own work; nothing of a dump).
-/
set_option linter.unusedSimpArgs false
set_option linter.unusedVariables false
namespace Go.Am
noncomputable section

def ren0 (P : Program) (m : Mem) : Ren := fun k => match m[k]? with
  | some (.tab e cs) => some ⟨k, cs.length, ((P.info? e).map (·.size)).getD 0⟩
  | some _ => some ⟨k, 0, 0⟩
  | none => none

/-- What is asked of a block. -/
def BlkAt (P : Program) (W : World) (k : Nat) : Blk → Prop
  | .dead => True
  | .tab e cs => W.heap[k]? = some (.cells ⟨cs⟩ e (0, 0)) ∧ (P.info? e).isSome = true ∧ cs.all lit0 = true
  | .row .. => False

theorem mr_tabs {P : Program} {m : Mem} {W : World} (hG : P.globals.size ≤ m.length) (hsize : m.length ≤ W.heap.size) (hb : ∀ k b, m[k]? = some b → BlkAt P W k b) : MR P (ren0 P m) m W := by
  have hr : ∀ k x, ren0 P m k = some x → k < m.length ∧ x.r = k := by
    intro k x h
    unfold ren0 at h
    cases hm : m[k]? with
    | none => rw [hm] at h; cases h
    | some b =>
      have hk : k < m.length := (List.getElem?_eq_some_iff.1 hm).1
      rw [hm] at h
      cases b <;> (cases h; exact ⟨hk, rfl⟩)
  have hs : ∀ k, k < m.length → ∃ x, ren0 P m k = some x ∧ x.r = k := by
    intro k hk
    have hm : m[k]? = some m[k] := by simp [hk]
    cases hq : m[k] with
    | dead => exact ⟨_, by unfold ren0; rw [hm, hq], rfl⟩
    | row ro e cs => exact ⟨_, by unfold ren0; rw [hm, hq], rfl⟩
    | tab e cs => exact ⟨_, by unfold ren0; rw [hm, hq], rfl⟩
  have hl : ∀ k ro e cs, look m k = some (ro, e, cs) → m[k]? = some (.tab e cs) := by
    intro k ro e cs h
    unfold look at h
    split at h
    · rename_i b hm
      have := hb k b hm
      cases b with
      | dead => simp [Blk.cells?] at h
      | row => exact absurd this id
      | tab e' cs' =>
        simp [Blk.cells?] at h
        obtain ⟨_, rfl, rfl⟩ := h
        exact hm
    · cases h
  refine ⟨fun k hk => ?_, fun k x h => ?_, fun g hg => hs g (by omega), fun k ro e cs h => ?_, fun k e cs k' ro' e' cs' x x' h => ?_, fun k e cs h => ?_⟩
  · unfold ren0
    rw [List.getElem?_eq_none hk]
  · obtain ⟨h1, h2⟩ := hr k x h
    omega
  · have hm := hl k ro e cs h
    obtain ⟨h1, h2, h3⟩ := hb k _ hm
    refine ⟨⟨k, cs.length, ((P.info? e).map (·.size)).getD 0⟩, ⟨cs⟩, (0, 0), by unfold ren0; rw [hm], h1, rfl, Nat.le_refl _, fun i u hu => ⟨u, by simpa using hu, .lit ?_⟩, fun _ => loose_zero _, ?_⟩
    · exact lit2_of_lit1 (lit1_of_lit0 (List.all_eq_true.1 h3 u (List.mem_of_getElem? hu)))
    · cases hi : P.info? e with
      | none => rw [hi] at h2; cases h2
      | some i => rfl
  · exact absurd (hb k _ h) id
  · obtain ⟨_, _, h3⟩ := hb k _ h
    intro v hv
    exact List.all_eq_true.1 h3 v hv

/-- A package variable's block. -/
theorem shaped_at {P : Program} {W : World} (h : W.ShapedOpen P) {g : Nat} {t : TypeId} (hg : g < P.globals.size) (h0 : (((begin P (fun _ _ => 0) default).world.heap[g]?).bind Obj.row?).map (·.2) = some t) :
    ∃ cs, W.heap[g]? = some (.cells cs t (0, 0)) := by
  obtain ⟨⟨z, t'⟩, h1, h2⟩ := Option.map_eq_some_iff.1 h0
  simp only at h2
  subst h2
  obtain ⟨cs, hc, _⟩ := h.1 g z t' hg h1
  exact ⟨cs, hc⟩

theorem tab_at {P : Program} {W : World} {name : String} {k : IntKind} {zs : List Int} {g : Nat} {t : TypeId} {cs : Array Value} (hg : P.globalNamed name = some g) (hc : W.heap[g]? = some (.cells cs t (0, 0))) (h : Lib.TabIs P W name k zs) :
    W.heap[g]? = some (.cells ⟨zs.map (.int k)⟩ t (0, 0)) := by
  unfold Lib.TabIs World.var? at h
  rw [hg] at h
  simp only [Option.bind_some, hc] at h
  cases h
  exact hc

theorem laid_tail {P : Program} {x : String × DataW Unit} {r : List (String × DataW Unit)} {w : World} (h : laidMet P (x :: r) w) : laidMet P r w := by
  obtain ⟨ps, hv, hnd, hrows⟩ := h
  obtain ⟨n, d⟩ := x
  obtain ⟨g, t, cs, fuel, p, q, _, _, _, _, hq, rfl⟩ := hv
  exact ⟨q, hq, List.Nodup.sublist (List.sublist_append_right _ _) hnd, fun b off hm => hrows b off (List.mem_append_right _ hm)⟩

/-- How a law's call ends, seen from outside: what was there stands as it stood. -/
theorem below_of_ends {P : Program} {ρ : Ren} {m m1 : Mem} {w w1 : World} {v : Value} {e : Ending} (hm : ∀ (k : Nat) (e : TypeId) (cs : List Value), m[k]? ≠ some (Blk.row false e cs)) (hv : lit2 v = true) (h : Ends P ρ m w v m1 e w1) : e = .returned v ∧ Go.RowKit.Below w.heap.size w w1 := by
  obtain ⟨v', ρ1, rfl, hvr, _, hx⟩ := h
  refine ⟨?_, ⟨hx.os, hx.tape, hx.output, hx.size, fun r hr => hx.kept r hr fun k e cs _ hk _ => absurd hk (hm k e cs)⟩⟩
  rw [hvr.eq_of_lit2 hv]
end
end Go.Am
