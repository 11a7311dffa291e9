/-
  ShaTexts: the texts' own laws, and the law at any two texts (own work).
-/
import Derived.Test.YtmopnogcdjehmaaDoorAmO6
import Derived.Test.YtmopnogcdjehmaaDoorAmR
set_option linter.unusedSimpArgs false
set_option linter.unusedVariables false
namespace Go.Am.Seat
open Go.Proofs Go.Am
set_option maxRecDepth 100000

theorem hexd_ok : ∀ n : Fin 16, digitB (hexd n.val).toNat = true ∧ digitV (hexd n.val).toNat = n.val := by decide
theorem hexd_of : ∀ n : Fin 256, digitB n.val = true → hexd (digitV n.val) = UInt8.ofNat n.val := by decide

theorem hexOf_get : ∀ (l : List UInt8) (k : Nat) (b : UInt8), l[k]? = some b → (hexOf l)[2 * k]? = some (hexd (b.toNat / 16)) ∧ (hexOf l)[2 * k + 1]? = some (hexd (b.toNat % 16))
  | [], k, b, h => by simp at h
  | a :: l, 0, b, h => by
    simp at h
    subst h
    exact ⟨rfl, rfl⟩
  | a :: l, k + 1, b, h => by
    have := hexOf_get l k b (by simpa using h)
    have e : hexOf (a :: l) = hexd (a.toNat / 16) :: hexd (a.toNat % 16) :: hexOf l := rfl
    rw [e, show 2 * (k + 1) = 2 * k + 1 + 1 by omega, show 2 * k + 1 + 1 + 1 = 2 * k + 1 + 1 + 1 from rfl]
    simpa using this

theorem hexOf_getD {l : List UInt8} {k : Nat} (h : k < l.length) : (hexOf l).getD (2 * k) 0 = hexd (l[k].toNat / 16) ∧ (hexOf l).getD (2 * k + 1) 0 = hexd (l[k].toNat % 16) := by
  obtain ⟨h1, h2⟩ := hexOf_get l k l[k] (by simp [h])
  rw [List.getD_eq_getElem?_getD, List.getD_eq_getElem?_getD, h1, h2]
  exact ⟨rfl, rfl⟩

theorem par_hex {l : List UInt8} {k : Nat} (h : k < l.length) : parOk (hexOf l) k = true ∧ parV (hexOf l) k = l[k].toNat := by
  obtain ⟨h1, h2⟩ := hexOf_getD h
  have hlt := l[k].toNat_lt
  have a1 := hexd_ok ⟨l[k].toNat / 16, by omega⟩
  have a2 := hexd_ok ⟨l[k].toNat % 16, by omega⟩
  unfold parOk parV
  rw [h1, h2]
  simp only at a1 a2
  rw [a1.1, a2.1, a1.2, a2.2]
  exact ⟨rfl, by omega⟩

theorem allOk_hex (l : List UInt8) : allOk (hexOf l) = true := by
  unfold allOk
  rw [hexOf_length, Bool.and_eq_true]
  refine ⟨decide_eq_true (by omega), List.all_eq_true.2 fun k hk => ?_⟩
  have := List.mem_range.1 hk
  exact (par_hex (by omega)).1

theorem parsed_hex (l : List UInt8) : parsed (hexOf l) = l := by
  unfold parsed
  rw [hexOf_length, show 2 * l.length / 2 = l.length by omega]
  apply List.ext_getElem?
  intro k
  by_cases hk : k < l.length
  · rw [List.getElem?_map, List.getElem?_range hk, Option.map_some, (par_hex hk).2]
    simp [hk]
  · rw [List.getElem?_eq_none (by simpa using hk), List.getElem?_eq_none (by omega)]

theorem hex_parsed {t : List UInt8} (h : allOk t = true) : hexOf (parsed t) = t := by
  unfold allOk at h
  rw [Bool.and_eq_true] at h
  obtain ⟨h1, h2⟩ := h
  have h1 := of_decide_eq_true h1
  have hpl : (parsed t).length = t.length / 2 := by simp [parsed]
  have key : ∀ k, k < t.length / 2 → (hexOf (parsed t))[2 * k]? = t[2 * k]? ∧ (hexOf (parsed t))[2 * k + 1]? = t[2 * k + 1]? := by
    intro k hk
    have hok := List.all_eq_true.1 h2 k (List.mem_range.2 hk)
    unfold parOk at hok
    rw [Bool.and_eq_true] at hok
    have hp : (parsed t)[k]? = some (UInt8.ofNat (parV t k)) := by
      unfold parsed
      rw [List.getElem?_map, List.getElem?_range hk]
      rfl
    obtain ⟨g1, g2⟩ := hexOf_get (parsed t) k _ hp
    have v1 := digitV_lt (t.getD (2 * k) 0).toNat
    have v2 := digitV_lt (t.getD (2 * k + 1) 0).toNat
    have hv : (UInt8.ofNat (parV t k)).toNat = 16 * digitV (t.getD (2 * k) 0).toNat + digitV (t.getD (2 * k + 1) 0).toNat := by
      unfold parV
      rw [UInt8.toNat_ofNat']
      omega
    rw [hv, show (16 * digitV (t.getD (2 * k) 0).toNat + digitV (t.getD (2 * k + 1) 0).toNat) / 16 = digitV (t.getD (2 * k) 0).toNat by omega] at g1
    rw [hv, show (16 * digitV (t.getD (2 * k) 0).toNat + digitV (t.getD (2 * k + 1) 0).toNat) % 16 = digitV (t.getD (2 * k + 1) 0).toNat by omega] at g2
    have c1 := hexd_of ⟨(t.getD (2 * k) 0).toNat, UInt8.toNat_lt _⟩ hok.1
    have c2 := hexd_of ⟨(t.getD (2 * k + 1) 0).toNat, UInt8.toNat_lt _⟩ hok.2
    simp only [UInt8.ofNat_toNat] at c1 c2
    rw [g1, g2, c1, c2]
    have q1 : 2 * k < t.length := by omega
    have q2 : 2 * k + 1 < t.length := by omega
    rw [List.getD_eq_getElem?_getD, List.getD_eq_getElem?_getD]
    simp [q1, q2]
  apply List.ext_getElem?
  intro j
  by_cases hj : j < t.length
  · rcases Nat.mod_two_eq_zero_or_one j with h | h
    · have := (key (j / 2) (by omega)).1
      rw [show 2 * (j / 2) = j by omega] at this
      exact this
    · have := (key (j / 2) (by omega)).2
      rw [show 2 * (j / 2) + 1 = j by omega] at this
      exact this
  · rw [List.getElem?_eq_none (by rw [hexOf_length, hpl]; omega), List.getElem?_eq_none (by omega)]

/-- Two bytes of a length. -/
def twoB (n : Nat) : ByteArray := bytesOfL [UInt8.ofNat (n / 256), UInt8.ofNat n]
def textOf (ss : List ByteArray) : ByteArray := ⟨((ss.flatMap counted1).map fun n => UInt8.ofNat n.toNat).toArray⟩

theorem counted_list (s : ByteArray) (h : s.data.toList.length ≤ 5000) : (counted1 s).map (fun n => UInt8.ofNat n.toNat) = (twoB s.data.toList.length).data.toList ++ s.data.toList := by
  unfold counted1 bytesI twoB
  rw [List.map_append, List.map_map]
  have e0 : ((fun n : Int => UInt8.ofNat n.toNat) ∘ fun b : UInt8 => (b.toNat : Int)) = id := by
    funext b
    simp
  rw [e0, List.map_id, bytesOfL_list]
  generalize s.data.toList.length = n at h ⊢
  have e1 : ((((n : Nat) : Int) % 65536).fdiv 256 % 256).toNat = n / 256 := by
    rw [Int.fdiv_eq_ediv_of_nonneg _ (by omega)]
    omega
  have e2 : (((n : Nat) : Int) % 65536 % 256).toNat = n % 256 := by omega
  have e3 : UInt8.ofNat (n % 256) = UInt8.ofNat n := by
    apply UInt8.toNat_inj.1
    simp
  simp only [List.map_cons, List.map_nil, e1, e2, e3]

theorem text_two (s t : ByteArray) (hs : s.data.toList.length ≤ 5000) (ht : t.data.toList.length ≤ 5000) : textOf [s, t] = twoB s.data.toList.length ++ s ++ twoB t.data.toList.length ++ t := by
  apply ba_eq
  rw [ba_append, ba_append, ba_append]
  show ([s, t].flatMap counted1).map (fun n => UInt8.ofNat n.toNat) = _
  rw [List.flatMap_cons, List.flatMap_cons, List.flatMap_nil, List.append_nil, List.map_append, counted_list s hs, counted_list t ht]
  simp

theorem two_inj {a b : Nat} (ha : a ≤ 5000) (hb : b ≤ 5000) {x y : List UInt8} (h : (twoB a).data.toList ++ x = (twoB b).data.toList ++ y) : a = b := by
  unfold twoB at h
  rw [bytesOfL_list, bytesOfL_list] at h
  simp only [List.cons_append, List.nil_append, List.cons.injEq] at h
  have e1 := congrArg UInt8.toNat h.1
  have e2 := congrArg UInt8.toNat h.2.1
  simp only [UInt8.toNat_ofNat'] at e1 e2
  omega

theorem same_text (s t : ByteArray) (hs : s.data.toList.length ≤ 1000) (ht : t.data.toList.length ≤ 1000) :
    ((twoB s.data.toList.length ++ s ++ twoB t.data.toList.length ++ t).toList == (twoB (s ++ t).data.toList.length ++ (s ++ t) ++ twoB (⟨#[]⟩ : ByteArray).data.toList.length ++ ⟨#[]⟩).toList) = (t.toList == (⟨#[]⟩ : ByteArray).toList) := by
  rw [Bool.eq_iff_iff, beq_iff_eq, beq_iff_eq, ByteArray.toList_eq, ByteArray.toList_eq, ByteArray.toList_eq, ByteArray.toList_eq]
  have hl : (s ++ t).data.toList.length = s.data.toList.length + t.data.toList.length := by rw [ba_append, List.length_append]
  constructor
  · intro h
    rw [ba_append, ba_append, ba_append, ba_append, ba_append, ba_append, List.append_assoc, List.append_assoc, List.append_assoc, List.append_assoc] at h
    have := two_inj (by omega) (by omega) h
    have h0 : t.data.toList.length = 0 := by omega
    rw [List.eq_nil_of_length_eq_zero h0]
  · intro h
    have ht0 : t = ⟨#[]⟩ := ba_eq h
    subst ht0
    have e : s ++ (⟨#[]⟩ : ByteArray) = s := by
      apply ba_eq
      rw [ba_append]
      simp
    rw [e]

abbrev K2 : List Fact := [awakeF2]
theorem K2_hold (F : Fact) (h : F ∈ K2) : F.holds E.P mem2 := by
  simp only [List.mem_cons, List.not_mem_nil, or_false] at h
  subst h
  exact awake02

theorem awake_call : ainv E (runK E mem2 K2 2000) 38 [] mem2 = some (.bool true, mem2) := by kernel_rfl

theorem run_ans {self : Self} {g : FuncId} {args : List Value} {m : Mem} {v : Value} (h : ansIs v (self g args m) = true) : ∃ m1, self g args m = some (v, m1) ∧ lit2 v = true := by
  unfold ansIs at h
  split at h
  · rename_i u m1 hr
    simp only [Bool.and_eq_true] at h
    have := eqV_sound h.2
    subst this
    exact ⟨m1, hr, h.1⟩
  · cases h

section
variable {m : Mem} {s t : ByteArray}

theorem digit_call (c : Nat) (m : Mem) (hc : c < 256) : ainv E (runK E mem2 K2 1999) 66 [.int .u8 (c : Nat)] m = some (.tuple ⟨[.int .u8 (digitV c : Nat), .bool (digitB c)]⟩, m) := by
  obtain ⟨m1, h⟩ := digit_body (self := runK E mem2 K2 1998) (nf := 1999) (m := (m.take E.G).map onlyTab) c hc
  exact ainv_lit rfl (by kernel_rfl) ((runK_other rfl).trans h) rfl

theorem parse_call (hl : s.data.toList.length ≤ 2000) : ainv E (runK E mem2 K2 2000) 39 [.string s] m = some (.tuple ⟨[.string (if allOk s.data.toList then bytesOfL (parsed s.data.toList) else ⟨#[]⟩), .bool (allOk s.data.toList)]⟩, m) := by
  obtain ⟨m1, h⟩ := par_body (self := runK E mem2 K2 1999) (nf := 2000) (m := (m.take E.G).map onlyTab) hl (by omega) digit_call
  exact ainv_lit rfl (by kernel_rfl) ((runK_other rfl).trans h) rfl

theorem hex_call0 : ainv E (runK E mem2 K2 2000) 40 [.string ⟨#[]⟩] mem2 = some (.string ⟨#[]⟩, mem2) := by
  obtain ⟨m1, h, hv⟩ := run_ans (self := runK E mem2 K2 2000) (g := 40) (args := [.string ⟨#[]⟩]) (m := mem2) (v := .string ⟨#[]⟩) (by kernel_rfl)
  exact ainv_lit rfl (by kernel_rfl) (by rw [show (mem2.take E.G).map onlyTab = mem2 from rfl]; exact h) hv

theorem hex_call (hl : s.data.toList.length ≤ 1000) : ainv E (runK E mem2 K2 2000) 40 [.string s] mem2 = some (.string (bytesOfL (hexOf s.data.toList)), mem2) := by
  by_cases h0 : s.data.toList.length = 0
  · have : s = ⟨#[]⟩ := ba_eq (List.eq_nil_of_length_eq_zero h0)
    subst this
    exact hex_call0
  · obtain ⟨m1, h⟩ := hex_body (K := K2) (n := 1996) (nf := 2000) (m := (mem2.take E.G).map onlyTab) (s := s) rfl rfl rfl rfl rfl hl (by omega) (by omega)
    exact ainv_lit rfl (by kernel_rfl) ((runK_other rfl).trans h) rfl

theorem rhex_call (hl : s.data.toList.length ≤ 1000) : ainv E (runK E mem2 K2 2000) 41 [.string s] m = some (.string (bytesOfL (hexOf s.data.toList)), m) :=
  ainv_lit rfl (by kernel_rfl) ((runK_other rfl).trans (rhex_body (self := runK E mem2 K2 1999) (nf := 2000) hl (by omega))) rfl

theorem two_call (k : Nat) (hk : k < 100000) : ainv E (runK E mem2 K2 2000) 43 [.int .i64 (k : Nat)] m = some (.string (twoB k), m) := by
  obtain ⟨m1, h⟩ := two_body (self := runK E mem2 K2 1999) (nf := 2000) (m := (m.take E.G).map onlyTab) k hk
  exact ainv_lit rfl (by kernel_rfl) ((runK_other rfl).trans h) rfl

theorem counted_call {M : Mem} {p : Nat} {ro : Bool} {ss : List ByteArray} (hne : ss ≠ []) (hL : ss.length ≤ 5) (hss : ∀ s, s ∈ ss → s.data.toList.length ≤ 2000) (hp : M[p]? = some (.row ro 9 (ss.map .string))) :
    ainv E (runK E mem2 K2 2000) 42 [.slice (some ⟨p, 0, none⟩) ss.length ss.length] M = some (.string (textOf ss), M) := by
  have hps : (M.map sealed)[p]? = some (.row true 9 (ss.map .string)) := by
    rw [List.getElem?_map, hp]
    rfl
  obtain ⟨m', h⟩ := counted_run (K := K2) (n := 1997) rfl rfl rfl rfl rfl hne (by omega) (by omega) hss hps
  have hw : E.wr 42 = false := by kernel_rfl
  unfold ainv
  rw [if_neg (by simp [lit2, lit1, lit0]), hw]
  simp only [Bool.false_eq_true, if_false, h]
  unfold acoll
  exact if_pos rfl

theorem counted_call0 (x : Mem) : ainv E (runK E mem2 K2 2000) 42 [.slice none 0 0] (mem2 ++ x) = some (.string ⟨#[]⟩, mem2 ++ x) := by
  obtain ⟨m1, h, hv⟩ := run_ans (self := runK E mem2 K2 2000) (g := 42) (args := [.slice none 0 0]) (m := mem2) (v := .string ⟨#[]⟩) (by kernel_rfl)
  exact ainv_lit rfl (by kernel_rfl) (by rw [show ((mem2 ++ x).take E.G).map onlyTab = mem2 from rfl]; exact h) hv

/-- The law, at any two texts. -/
theorem law7 (s t : ByteArray) : ∃ m', runK E mem2 K2 2001 7 [.string s, .string t] mem2 = some (.bool true, m') := by
  rw [runK_other (rfl : hasF K2 7 = false)]
  by_cases hbig : s.data.toList.length > 1000 ∨ t.data.toList.length > 1000
  · exact st_long awake_call hbig
  · have hs : s.data.toList.length ≤ 1000 := by omega
    have ht : t.data.toList.length ≤ 1000 := by omega
    have hP := parse_call (m := mem2) (s := bytesOfL (hexOf s.data.toList)) (by rw [bytesOfL_list, hexOf_length]; omega)
    rw [bytesOfL_list, allOk_hex, parsed_hex] at hP
    have es : bytesOfL s.data.toList = s := ba_eq rfl
    simp only [if_true, es] at hP
    have hll : (s ++ t).data.toList.length ≤ 2000 := by rw [ba_append, List.length_append]; omega
    have hc : ∀ x : Mem, ainv E (runK E mem2 K2 2000) 42 [.slice (some ⟨(mem2 ++ x).length, 0, none⟩) 2 2] (mem2 ++ x ++ [.row false 9 [.string s, .string t]]) = some (.string (twoB s.data.toList.length ++ s ++ twoB t.data.toList.length ++ t), mem2 ++ x ++ [.row false 9 [.string s, .string t]]) := by
      intro x
      have := counted_call (M := mem2 ++ x ++ [.row false 9 [.string s, .string t]]) (p := (mem2 ++ x).length) (ss := [s, t]) (ro := false) (by simp) (by simp) (fun u hu => by
        simp only [List.mem_cons, List.not_mem_nil, or_false] at hu
        rcases hu with rfl | rfl <;> omega) (by simp)
      rw [text_two s t (by omega) (by omega)] at this
      exact this
    have hc3 : ∀ x : Mem, ainv E (runK E mem2 K2 2000) 42 [.slice (some ⟨(mem2 ++ x).length, 0, none⟩) 2 2] (mem2 ++ x ++ [.row false 9 [.string (s ++ t), .string ⟨#[]⟩]]) = some (.string (twoB (s ++ t).data.toList.length ++ (s ++ t) ++ twoB (⟨#[]⟩ : ByteArray).data.toList.length ++ ⟨#[]⟩), mem2 ++ x ++ [.row false 9 [.string (s ++ t), .string ⟨#[]⟩]]) := by
      intro x
      have := counted_call (M := mem2 ++ x ++ [.row false 9 [.string (s ++ t), .string ⟨#[]⟩]]) (p := (mem2 ++ x).length) (ss := [s ++ t, ⟨#[]⟩]) (ro := false) (by simp) (by simp) (fun u hu => by
        simp only [List.mem_cons, List.not_mem_nil, or_false] at hu
        rcases hu with rfl | rfl
        · exact hll
        · simp) (by simp)
      rw [text_two (s ++ t) ⟨#[]⟩ (by omega) (by simp)] at this
      exact this
    refine st_short awake_call hs ht (hex_call hs) hP (parse_call (by omega)) (rhex_call hs) (fun his => ?_) (fun his => ?_) (A := twoB s.data.toList.length) (B := twoB t.data.toList.length) ?_ (two_call _ (by omega)) (two_call _ (by omega)) (by rw [show (twoB s.data.toList.length).size = 2 from rfl]; omega) (by rw [show (twoB t.data.toList.length).size = 2 from rfl]; omega) (counted_call0 _) ?_ ?_ (same_text s t hs ht)
    · rw [his]
      simp only [if_true]
      have := hex_call (s := bytesOfL (parsed t.data.toList)) (by rw [bytesOfL_list]; unfold parsed; rw [List.length_map, List.length_range]; omega)
      rw [bytesOfL_list, hex_parsed his] at this
      exact this
    · rw [his]
      simp
    · have := hc []
      simpa using this
    · have := hc [.row false 9 [.string s, .string t]]
      exact this
    · have := hc3 ([.row false 9 [.string s, .string t]] ++ [.row false 9 [.string s, .string t]])
      rw [← List.append_assoc] at this
      exact this
end
end Go.Am.Seat
