/-
  ShaCounts: two pairs have one text just if they are the same (own work).
-/
import Derived.Test.YtakmoehldgijiaaDoorAmZ
import Derived.Test.YtakmoehldgijiaaDoorAmR
set_option linter.unusedSimpArgs false
set_option linter.unusedVariables false
namespace Go.Am.Seat
open Go.Proofs Go.Am
set_option maxRecDepth 100000

def u8s (l : List Int) : List UInt8 := l.map fun n => UInt8.ofNat n.toNat
def textOf (ss : List ByteArray) : ByteArray := ⟨((ss.flatMap counted1).map fun n => UInt8.ofNat n.toNat).toArray⟩

theorem u8s_bytes (s : ByteArray) : u8s (bytesI s) = s.data.toList := by
  unfold u8s bytesI
  rw [List.map_map]
  have : ((fun n : Int => UInt8.ofNat n.toNat) ∘ fun b : UInt8 => (b.toNat : Int)) = id := by
    funext b
    simp
  rw [this, List.map_id]

theorem u8s_counted (s : ByteArray) : u8s (counted1 s) = UInt8.ofNat (((((s.data.toList.length : Nat) : Int) % 65536).fdiv 256 % 256).toNat) :: UInt8.ofNat ((((s.data.toList.length : Nat) : Int) % 65536 % 256).toNat) :: s.data.toList := by
  have := u8s_bytes s
  unfold u8s at this ⊢
  simp only [counted1, List.map_append, List.map_cons, List.map_nil, this, List.cons_append, List.nil_append]

theorem len_inj {x y : Nat} (hx : x ≤ 500) (hy : y ≤ 500) (h1 : UInt8.ofNat ((((x : Nat) : Int) % 65536).fdiv 256 % 256).toNat = UInt8.ofNat ((((y : Nat) : Int) % 65536).fdiv 256 % 256).toNat)
    (h2 : UInt8.ofNat (((x : Nat) : Int) % 65536 % 256).toNat = UInt8.ofNat (((y : Nat) : Int) % 65536 % 256).toNat) : x = y := by
  have e1 := congrArg UInt8.toNat h1
  have e2 := congrArg UInt8.toNat h2
  rw [Int.fdiv_eq_ediv_of_nonneg _ (by omega), Int.fdiv_eq_ediv_of_nonneg _ (by omega)] at e1
  simp only [UInt8.toNat_ofNat'] at e1 e2
  omega

theorem two_inj {a b c d : ByteArray} (ha : a.data.toList.length ≤ 500) (hc : c.data.toList.length ≤ 500) (h : u8s (counted1 a) ++ u8s (counted1 b) = u8s (counted1 c) ++ u8s (counted1 d)) : a.data.toList = c.data.toList ∧ b.data.toList = d.data.toList := by
  rw [u8s_counted, u8s_counted, u8s_counted, u8s_counted] at h
  simp only [List.cons_append, List.cons.injEq] at h
  obtain ⟨h1, h2, h3⟩ := h
  have hl := len_inj ha hc h1 h2
  obtain ⟨h4, h5⟩ := List.append_inj h3 hl
  simp only [List.cons.injEq] at h5
  exact ⟨h4, h5.2.2⟩

abbrev K2 : List Fact := [awakeF2]

theorem K2_hold (F : Fact) (h : F ∈ K2) : F.holds E.P mem2 := by
  simp only [List.mem_cons, List.not_mem_nil, or_false] at h
  subst h
  exact awake02

theorem call_counted {M : Mem} {p : Nat} {ro : Bool} {ss : List ByteArray} (hne : ss ≠ []) (hL : ss.length ≤ 5) (hss : ∀ s, s ∈ ss → s.data.toList.length ≤ 1000) (hp : M[p]? = some (.row ro 9 (ss.map .string))) :
    ainv E (runK E mem2 K2 13) 40 [.slice (some ⟨p, 0, none⟩) ss.length ss.length] M = some (.string (textOf ss), M) := by
  have hps : (M.map sealed)[p]? = some (.row true 9 (ss.map .string)) := by
    rw [List.getElem?_map, hp]
    rfl
  obtain ⟨m', h⟩ := counted_run (K := K2) (n := 10) rfl rfl rfl rfl rfl hne (by omega) (by omega) hss hps
  have hw : E.wr 40 = false := by kernel_rfl
  unfold ainv
  rw [if_neg (by simp [lit2, lit1, lit0]), hw]
  simp only [Bool.false_eq_true, if_false, h]
  unfold acoll
  exact if_pos rfl

theorem awake_call : ainv E (runK E mem2 K2 13) 36 [] mem2 = some (.bool true, mem2) := by kernel_rfl

theorem four_small {a b c d : ByteArray} (h : decide (max4I (lenI a) (lenI b) (lenI c) (lenI d) > 500) = false) : a.data.toList.length ≤ 500 ∧ b.data.toList.length ≤ 500 ∧ c.data.toList.length ≤ 500 ∧ d.data.toList.length ≤ 500 := by
  have h' := of_decide_eq_false h
  simp only [max4I, max2I, lenI] at h'
  refine ⟨?_, ?_, ?_, ?_⟩ <;> (repeat' split at h') <;> omega

theorem text_list (ss : List ByteArray) : (textOf ss).toList = ss.flatMap fun s => u8s (counted1 s) := by
  rw [ByteArray.toList_eq]
  show (ss.flatMap counted1).map (fun n => UInt8.ofNat n.toNat) = _
  rw [List.map_flatMap]
  rfl

theorem eq_text {a b c d : ByteArray} (ha : a.data.toList.length ≤ 500) (hc : c.data.toList.length ≤ 500) : ((textOf [a, b]).toList == (textOf [c, d]).toList) = ((a.toList == c.toList) && (b.toList == d.toList)) := by
  rw [text_list, text_list, ByteArray.toList_eq, ByteArray.toList_eq, ByteArray.toList_eq, ByteArray.toList_eq]
  simp only [List.flatMap_cons, List.flatMap_nil, List.append_nil]
  rw [Bool.eq_iff_iff]
  simp only [beq_iff_eq, Bool.and_eq_true]
  constructor
  · exact two_inj ha hc
  · rintro ⟨h1, h2⟩
    rw [u8s_counted, u8s_counted, u8s_counted, u8s_counted, h1, h2]

theorem len_text {a b c : ByteArray} (ha : a.data.toList.length ≤ 500) (hb : b.data.toList.length ≤ 500) (hc : c.data.toList.length ≤ 500) : (lenI (textOf [a, b, c]) == wrapF .i64 (wrapF .i64 (wrapF .i64 (lenI a + lenI b) + lenI c) + 6)) = true := by
  have h : (textOf [a, b, c]).data.toList.length = a.data.toList.length + b.data.toList.length + c.data.toList.length + 6 := by
    show (([a, b, c].flatMap counted1).map (fun n => UInt8.ofNat n.toNat)).length = _
    simp [counted1, bytesI]
    omega
  have w1 : wrapF .i64 (lenI a + lenI b) = lenI a + lenI b := by simp only [wrapF, lenI]; rw [if_neg (by omega)]; omega
  have w2 : wrapF .i64 (lenI a + lenI b + lenI c) = lenI a + lenI b + lenI c := by simp only [wrapF, lenI]; rw [if_neg (by omega)]; omega
  have w3 : wrapF .i64 (lenI a + lenI b + lenI c + 6) = lenI a + lenI b + lenI c + 6 := by simp only [wrapF, lenI]; rw [if_neg (by omega)]; omega
  rw [w1, w2, w3, beq_iff_eq]
  simp only [lenI, h]
  omega

/-- The law, at any four texts. -/
theorem law9 (a b c d : ByteArray) : ∃ m', runK E mem2 K2 14 9 [.string a, .string b, .string c, .string d] mem2 = some (.bool true, m') := by
  rw [runK_other (rfl : hasF K2 9 = false)]
  cases hbig : decide (max4I (lenI a) (lenI b) (lenI c) (lenI d) > 500) with
  | true => exact long9 awake_call hbig
  | false =>
    obtain ⟨ha, hb, hc, hd⟩ := four_small hbig
    refine short9 awake_call hbig (X1 := textOf [a, b]) (X2 := textOf [c, d]) (X3 := textOf [a, b, c]) ?_ ?_ ?_ (eq_text ha hc) (len_text ha hb hc)
    · refine call_counted (ss := [a, b]) (ro := false) (by simp) (by simp) (fun s hs => ?_) (by simp)
      simp only [List.mem_cons, List.not_mem_nil, or_false] at hs
      rcases hs with rfl | rfl <;> omega
    · refine call_counted (ss := [c, d]) (ro := false) (by simp) (by simp) (fun s hs => ?_) (by simp)
      simp only [List.mem_cons, List.not_mem_nil, or_false] at hs
      rcases hs with rfl | rfl <;> omega
    · refine call_counted (ss := [a, b, c]) (ro := false) (by simp) (by simp) (fun s hs => ?_) (by simp)
      simp only [List.mem_cons, List.not_mem_nil, or_false] at hs
      rcases hs with rfl | rfl | rfl <;> omega
end Go.Am.Seat
