/-
  Texts of my own, put together: M6, S1, A1, A2, A3, E1, E2, E3, A4, E4, E5, E6, E7.
-/
import Derived.Test.YtfgincdpgdlfnaaDoorGrLimbTexts11
import Derived.Test.YtfgincdpgdlfnaaDoorGrLimbTexts12
set_option linter.unusedSimpArgs false
set_option linter.unusedVariables false
set_option maxRecDepth 100000
namespace Go.Am.Seat
open Go.Proofs Go.Am
theorem acoll_old {m m1 : Mem} {n b o k c : Nat} (hb : b < n) : acoll m n (.slice (some ⟨b, o, none⟩) k c) m1 = some (.slice (some ⟨b, o, none⟩) k c, m) := by
  unfold acoll
  rw [if_neg (by simp [lit2, lit1, lit0])]
  simp only [partsOf, idsL, idOf, addIds, hb, if_true, closeIds, List.foldl_nil, nodupB, List.all_nil, Bool.and_self, renB, ren3, ren2, ren1, rid, List.append_nil]
theorem idsL_lit {n : Nat} : ∀ (l : List Value) (acc : List Nat), l.all lit0 = true → idsL n l acc = acc
  | [], _, _ => rfl
  | v :: l, acc, h => by
    simp only [List.all_cons, Bool.and_eq_true] at h
    have hv : idOf n v = [] := by
      have h1 := h.1
      cases v with
      | pointer a => cases a with
        | none => rfl
        | some a => simp [lit0] at h1
      | slice a x y => cases a with
        | none => rfl
        | some a => simp [lit0] at h1
      | func fn a b => simp only [lit0] at h1; simp only [idOf, h1, if_true]
      | _ => rfl
    unfold idsL
    rw [hv]
    exact idsL_lit l acc h.2
theorem renL_id {n N : Nat} {keep : List Nat} : ∀ (l : List Value), l.all lit0 = true → renL n N keep l = some l
  | [], _ => rfl
  | v :: l, h => by
    simp only [List.all_cons, Bool.and_eq_true] at h
    have hv : ren1 n N keep v = some v := by
      have h1 := h.1
      cases v with
      | pointer a => cases a with
        | none => rfl
        | some a => simp [lit0] at h1
      | slice a x y => cases a with
        | none => rfl
        | some a => simp [lit0] at h1
      | func fn a b => simp only [lit0] at h1; simp only [ren1, h1, if_true]
      | _ => first | rfl | simp only [ren1, h1, if_true]
    unfold renL
    rw [hv, renL_id l h.2]
theorem acoll_new {m m1 : Mem} {n b o k c : Nat} {ro : Bool} {e : TypeId} {cs : List Value} (hb : n ≤ b) (hm : m1[b]? = some (.row ro e cs)) (hc : cs.all lit0 = true) :
    acoll m n (.slice (some ⟨b, o, none⟩) k c) m1 = some (.slice (some ⟨m.length, o, none⟩) k c, m ++ [.row ro e cs]) := by
  have hnb : ¬ b < n := by omega
  unfold acoll
  rw [if_neg (by simp [lit2, lit1, lit0])]
  have h1 : idsL n (partsOf (.slice (some ⟨b, o, none⟩) k c)) [] = [b] := by
    simp [partsOf, idsL, idOf, addIds, hnb]
  have h2 : closeIds n m1 2 [b] = [b] := by
    simp only [closeIds, List.foldl_cons, List.foldl_nil, hm, idsL_lit cs [b] hc]
  simp only [h1, h2]
  rw [if_pos (by simp [nodupB, hb])]
  have h3 : rid n m.length [b] b = some m.length := by
    unfold rid
    rw [if_neg hnb]
    simp [List.idxOf?]
  simp only [renB, hm, renL_id cs hc, ren3, ren2, ren1, h3]
theorem trimAt_unique {l : List Nat} {n n' : Nat} (h : TrimAt l n) (h' : TrimAt l n') : n = n' := by
  obtain ⟨a1, a2, a3⟩ := h
  obtain ⟨b1, b2, b3⟩ := h'
  rcases Nat.lt_trichotomy n n' with hlt | he | hlt
  · rcases b3 with h0 | ⟨x, hx, hg⟩
    · omega
    · have := a2 (n' - 1) (by omega) (by omega)
      rw [hg] at this
      cases this
      omega
  · exact he
  · rcases a3 with h0 | ⟨x, hx, hg⟩
    · omega
    · have := b2 (n - 1) (by omega) (by omega)
      rw [hg] at this
      cases this
      omega
theorem trimAt_exists {l : List Nat} (hl : 0 < l.length) (hl' : l.length ≤ 1000) : ∃ n, TrimAt l n := by
  obtain ⟨n, hn, _⟩ := trim_body (self := fun _ _ _ => none) (nf := 1001) (m := [.row true 3 (cellsN l)]) (b := 0) (l := l) (ro := true) rfl hl hl' (by omega)
  exact ⟨n, hn⟩
theorem cellsN_lit (l : List Nat) : (cellsN l).all lit0 = true := by
  unfold cellsN
  rw [List.all_map, List.all_eq_true]
  intro x _
  rfl
section
variable {K : List Fact} {k n b : Nat} {M : Mem} {l : List Nat} {w : Nat → Nat} {Z : Mem}
theorem ainv_look {self : Self} {g : FuncId} {args : List Value} {m m1 : Mem} {v : Value} (ha : args.all lit2 = false) (hw : E.wr g = false) (h : self g args (m.map sealed) = some (v, m1)) (hv : lit2 v = true) : ainv E self g args m = some (v, m) := by
  unfold ainv
  rw [ha, hw]
  simp only [Bool.false_eq_true, if_false, h]
  unfold acoll
  rw [if_pos hv]
theorem trim_call (hK : hasF K 16 = false) (hn : TrimAt l n) (hk : 1000 ≤ k) (hl : 0 < l.length) (hl' : l.length ≤ 1000) (hM : M[b]? = some (.row false 3 (cellsN l))) :
    ainv E (runK E Z K (k + 1)) 16 [.slice (some ⟨b, 0, none⟩) l.length l.length] M = some (.slice (some ⟨b, 0, none⟩) n l.length, M) := by
  have hs : (M.map sealed)[b]? = some (.row true 3 (cellsN l)) := by rw [List.getElem?_map, hM]; rfl
  obtain ⟨n', hn', hr⟩ := trim_body (self := runK E Z K k) (nf := k + 1) hs hl hl' (by omega)
  have := trimAt_unique hn hn'
  subst this
  have hw : E.wr 16 = false := by kernel_rfl
  unfold ainv
  rw [if_neg (by simp [lit2, lit1, lit0]), hw]
  simp only [Bool.false_eq_true, if_false, runK_other hK, hr]
  exact acoll_old (by rw [List.length_map]; exact lt_of_at hM)
theorem of_call {s : ByteArray} (hK : hasF K 16 = false) (hK' : hasF K 8 = false) (hn : TrimAt (natsOf s) n) (hk : 1000 ≤ k) (hs : s.data.toList.length ≤ 1000) (h0 : 0 < s.data.toList.length) :
    ainv E (runK E Z K (k + 2)) 8 [.string s] M = some (.slice (some ⟨M.length, 0, none⟩) n s.data.toList.length, M ++ [.row false 3 (cellsN (natsOf s))]) := by
  have hnl : (natsOf s).length = s.data.toList.length := by unfold natsOf; rw [List.length_map]
  obtain ⟨b, m', hr, hb, hle⟩ := of_body (self := runK E Z K (k + 1)) (nf := k + 2) (m := (M.take E.G).map onlyTab) (s := s) (n := n) hs h0 (by omega) (fun M' b' hM' => by
    have := trim_call (Z := Z) hK hn hk (by omega) (by omega) hM'
    rw [hnl] at this
    exact this)
  unfold ainv
  rw [if_pos (show [Value.string s].all lit2 = true from rfl), show E.fast 8 = none from by kernel_rfl]
  simp only [runK_other hK', hr]
  exact acoll_new hle hb (cellsN_lit _)
theorem byS_list (w : Nat → Nat) : (byS w).data.toList.length = 64 := by
  unfold byS
  rw [bytesOfL_list, List.length_map, byL_length]
theorem byW_lt (w : Nat → Nat) (t : Nat) : byW w t < 256 := Nat.mod_lt _ (by omega)
theorem natsOf_byS (w : Nat → Nat) : natsOf (byS w) = (List.range 64).map (byW w) := by
  unfold natsOf byS byL
  rw [bytesOfL_list, List.map_map, List.map_map]
  apply List.map_congr_left
  intro t _
  show (UInt8.ofNat (((byW w t : Nat) : Int)).toNat).toNat = byW w t
  rw [Int.toNat_natCast, UInt8.toNat_ofNat']
  exact Nat.mod_eq_of_lt (byW_lt w t)
theorem num_call (hK : hasF K 16 = false) (hK' : hasF K 8 = false) (hK2 : hasF K 7 = false) (hn : TrimAt (natsOf (byS w)) n) (hk : 1000 ≤ k) :
    ainv E (runK E Z K (k + 3)) 7 [wide w] M = some (.slice (some ⟨M.length, 0, none⟩) n 64, M ++ [.row false 3 (cellsN (natsOf (byS w)))]) := by
  obtain ⟨m', hr, hle⟩ := num_body (self := runK E Z K (k + 2)) (nf := k + 3) (m := (M.take E.G).map onlyTab) (w := w) (k := n) (l := cellsN (natsOf (byS w))) (by omega) (fun M' => by
    have := of_call (M := M') (Z := Z) (s := byS w) hK hK' hn hk (by rw [byS_list]; omega) (by rw [byS_list]; omega)
    rw [byS_list] at this
    exact this)
  unfold ainv
  rw [if_pos (by simp only [List.all_cons, List.all_nil, wide_lit, Bool.and_self]), show E.fast 7 = none from by kernel_rfl]
  simp only [runK_other hK2, hr]
  exact acoll_new hle (by simp) (cellsN_lit _)
end
end Go.Am.Seat
namespace Go.Am.Seat
open Go.Proofs Go.Am
-- ntmps 9
-- ntmps 17
-- ntmps 122
-- ntmps 71
def rowK (k : IntKind) (n : Nat) (w : Nat → Nat) : List Value := (List.range n).map fun j => .int k ((w j : Nat) : Int)
def arrK (k : IntKind) (n : Nat) (w : Nat → Nat) : Value := .agg ⟨rowK k n w⟩
theorem rowK_length (k : IntKind) (n : Nat) (w : Nat → Nat) : (rowK k n w).length = n := by simp [rowK]
theorem rowK_get {k : IntKind} {n : Nat} {w : Nat → Nat} {j : Nat} (h : j < n) : (rowK k n w)[j]? = some (.int k ((w j : Nat) : Int)) := by
  unfold rowK
  rw [List.getElem?_map, List.getElem?_range h]
  rfl
theorem rowK_set {k : IntKind} {n : Nat} {w : Nat → Nat} {i x : Nat} : (rowK k n w).set i (.int k ((x : Nat) : Int)) = rowK k n (fun j => if j = i then x else w j) := by
  apply List.ext_getElem?
  intro q
  rw [List.getElem?_set]
  by_cases hk : q < n
  · rw [rowK_get hk, rowK_get hk, rowK_length]
    by_cases h : i = q
    · subst h; simp [hk]
    · have h' : ¬ q = i := fun e => h e.symm
      simp [h, h']
  · rw [List.getElem?_eq_none (by rw [rowK_length]; omega), List.getElem?_eq_none (by rw [rowK_length]; omega), rowK_length]
    by_cases h : i = q
    · subst h; simp [hk]
    · simp [h]
theorem rowK_lit (k : IntKind) (n : Nat) (w : Nat → Nat) : (rowK k n w).all lit0 = true := by
  unfold rowK
  rw [List.all_map, List.all_eq_true]
  intro x _
  rfl
theorem rowK_ok (k : IntKind) (n : Nat) (w : Nat → Nat) : (rowK k n w).all cellOk = true := by
  unfold rowK
  rw [List.all_map, List.all_eq_true]
  intro x _
  rfl
theorem arrK_lit (k : IntKind) (n : Nat) (w : Nat → Nat) : lit2 (arrK k n w) = true := rowK_lit k n w
theorem rowK_ext {k : IntKind} {n : Nat} {w w' : Nat → Nat} (h : ∀ j, j < n → w j = w' j) : rowK k n w = rowK k n w' := by
  unfold rowK
  apply List.map_congr_left
  intro j hj
  rw [h j (List.mem_range.1 hj)]
structure ArrT (t : TypeId) (n : Nat) (e : TypeId) (k : IntKind) : Prop where
  und : E.P.underlying t = some (.array n e)
  unde : E.P.underlying e = some (.int k)
  info : ∃ i, E.P.info? t = some i ∧ i.size = n
  infoe : ∃ i, E.P.info? e = some i ∧ i.size = 1
section
variable {t e : TypeId} {n : Nat} {k : IntKind} {m : Mem} {p j x : Nat} {w : Nat → Nat} {ro : Bool} {be : TypeId} {cs : List Value}
theorem ArrT.box (h : ArrT t n e k) : abox E.P t (arrK k n w) m = some (.pointer (some ⟨m.length, 0, none⟩), m ++ [.row false t (rowK k n w)]) := by
  obtain ⟨i, h1, _⟩ := h.info
  unfold abox arrK
  simp only [h1, vcells, rowK_ok, if_true]
theorem ArrT.load (h : ArrT t n e k) (hm : m[p]? = some (.row ro be (rowK k n w))) : aload E.P t (.pointer (some ⟨p, 0, none⟩)) m = some (arrK k n w) := by
  obtain ⟨i, h1, h2⟩ := h.info
  unfold aload
  simp only [lookRow hm, h.und, aggD, h1, h2]
  rw [if_pos (by rw [rowK_length]; omega), List.drop_zero, List.take_of_length_le (by rw [rowK_length]; omega)]
  rfl
theorem ArrT.store (h : ArrT t n e k) (hn : n ≠ 1) (hm : m[p]? = some (.row false be cs)) (hl : cs.length = n) : astore E.P t (.pointer (some ⟨p, 0, none⟩)) (arrK k n w) m = some (m.set p (.row false be (rowK k n w))) := by
  obtain ⟨i, h1, h2⟩ := h.info
  unfold astore arrK
  simp only [hm, vcells, rowK_ok, if_true, h1, h2]
  rw [if_pos ⟨rowK_length k n w, by rw [rowK_length]; omega⟩]
  congr 2
  have : lay cs 0 (rowK k n w) = rowK k n w := by
    unfold lay
    split
    · rename_i v hv
      have := congrArg List.length hv
      rw [rowK_length] at this
      simp at this
      omega
    · rw [List.take_zero, List.nil_append, List.drop_of_length_le (by rw [rowK_length]; omega), List.append_nil]
  rw [this]
theorem ArrT.ix (h : ArrT t n e k) (hj : j < n) : aindexAddr E.P t (.pointer (some ⟨p, 0, none⟩)) (.int .i64 (j : Nat)) = some (.pointer (some ⟨p, j, none⟩)) := by
  obtain ⟨i, h1, h2⟩ := h.infoe
  unfold aindexAddr
  simp only [h.und, h1, h2]
  rw [if_pos (by omega)]
  simp
theorem ArrT.storeE (h : ArrT t n e k) (hm : m[p]? = some (.row false be (rowK k n w))) (hj : j < n) : astore E.P e (.pointer (some ⟨p, j, none⟩)) (.int k ((x : Nat) : Int)) m = some (m.set p (.row false be (rowK k n (fun q => if q = j then x else w q)))) := by
  obtain ⟨i, h1, h2⟩ := h.infoe
  rw [astore_cell h1 h2 hm (by rw [rowK_length]; exact hj) rfl, rowK_set]
end
theorem info_of {t : TypeId} {n : Nat} (h : (E.P.info? t).map (·.size) = some n) : ∃ i, E.P.info? t = some i ∧ i.size = n := Option.map_eq_some_iff.1 h
theorem conv3_54' (k : Int) : aconv E.P 3 42 (.int .i64 k) = some (.int .u64 (k % 18446744073709551616)) := by kernel_rfl
theorem andU (a b : Int) : abin .and .u64 a .u64 b = some (.int .u64 (wrapF .u64 ((((a % 18446744073709551616).toNat &&& (b % 18446744073709551616).toNat : Nat)) : Int))) := by kernel_rfl
theorem subU (a b : Int) : abin .sub .u64 a .u64 b = some (.int .u64 (wrapF .u64 (a - b))) := by kernel_rfl
theorem shlU {x n : Nat} (hn : n ≤ 64) : abin .shl .u64 ((x : Nat) : Int) .u64 ((n : Nat) : Int) = some (.int .u64 ((x * 2 ^ n % 18446744073709551616 : Nat) : Int)) := by
  unfold abin
  simp only
  rw [if_neg (by omega), Int.toNat_natCast, show IntKind.u64.bits = 64 from rfl, Nat.min_eq_left hn]
  simp only [wrapF]
  congr 2
theorem shrU {x n : Nat} (hn : n ≤ 64) : abin .shr .u64 ((x : Nat) : Int) .u64 ((n : Nat) : Int) = some (.int .u64 ((x / 2 ^ n : Nat) : Int)) := by
  unfold abin
  simp only
  rw [if_neg (by omega), Int.toNat_natCast, show IntKind.u64.bits = 64 from rfl, Nat.min_eq_left hn, Int.fdiv_eq_ediv_of_nonneg _ (by exact Int.natCast_nonneg _)]
  congr 2
section
variable {self : Self} {nf : Nat} {m : Mem} {x n : Nat}
end
end Go.Am.Seat
namespace Go.Am.Num
def B : Nat → Nat → Nat
  | _, 0 => 1
  | 0, _ + 1 => 0
  | n + 1, k + 1 => B n k + B n (k + 1)
end Go.Am.Num
namespace Go.Am.Num
end Go.Am.Num
namespace Go.Am.Num
set_option maxHeartbeats 4000000
def wd (k V : Nat) : Nat := V / 18446744073709551616 ^ k % 18446744073709551616
def v4 (a b c d : Nat) : Nat := a + b * 18446744073709551616 + c * 340282366920938463463374607431768211456 + d * 6277101735386680763835789423207666416102355444464034512896
theorem mul64_ok {x y : Nat} (hx : x < 18446744073709551616) (hy : y < 18446744073709551616) {x0 x1 y0 y1 w0 t w1 w2 w3 hi : Nat}
    (e1 : x0 = x % 4294967296) (e2 : x1 = x / 4294967296) (e3 : y0 = y % 4294967296) (e4 : y1 = y / 4294967296) (e5 : w0 = x0 * y0 % 18446744073709551616) (e6 : t = (x1 * y0 % 18446744073709551616 + w0 / 4294967296) % 18446744073709551616)
    (e7 : w1 = t % 4294967296) (e8 : w2 = t / 4294967296) (e9 : w3 = (w1 + x0 * y1 % 18446744073709551616) % 18446744073709551616)
    (e10 : hi = ((x1 * y1 % 18446744073709551616 + w2) % 18446744073709551616 + w3 / 4294967296) % 18446744073709551616) : hi = x * y / 18446744073709551616 := by
  have hx0 : x0 < 4294967296 := by omega
  have hx1 : x1 < 4294967296 := by omega
  have hy0 : y0 < 4294967296 := by omega
  have hy1 : y1 < 4294967296 := by omega
  have b1 : x0 * y0 ≤ 4294967295 * 4294967295 := Nat.mul_le_mul (by omega) (by omega)
  have b2 : x1 * y0 ≤ 4294967295 * 4294967295 := Nat.mul_le_mul (by omega) (by omega)
  have b3 : x0 * y1 ≤ 4294967295 * 4294967295 := Nat.mul_le_mul (by omega) (by omega)
  have b4 : x1 * y1 ≤ 4294967295 * 4294967295 := Nat.mul_le_mul (by omega) (by omega)
  have hxx : x = x1 * 4294967296 + x0 := by omega
  have hyy : y = y1 * 4294967296 + y0 := by omega
  have hp : x * y = x1 * y1 * 18446744073709551616 + (x1 * y0 + x0 * y1) * 4294967296 + x0 * y0 := by
    rw [hxx, hyy, Nat.add_mul, Nat.mul_add, Nat.mul_add]
    have k1 : x1 * 4294967296 * (y1 * 4294967296) = x1 * y1 * 18446744073709551616 := by
      rw [Nat.mul_mul_mul_comm]
    have k2 : x1 * 4294967296 * y0 = x1 * y0 * 4294967296 := by rw [Nat.mul_right_comm]
    have k3 : x0 * (y1 * 4294967296) = x0 * y1 * 4294967296 := by rw [Nat.mul_assoc]
    rw [k1, k2, k3]
    omega
  rw [hp]
  clear hp hxx hyy e1 e2 e3 e4
  generalize x0 * y0 = p00 at *
  generalize x1 * y0 = p10 at *
  generalize x0 * y1 = p01 at *
  generalize x1 * y1 = p11 at *
  omega
end Go.Am.Num
namespace Go.Am.Seat
open Go.Proofs Go.Am Go.Am.Num
set_option maxHeartbeats 4000000
noncomputable def rml_0 : Array Oper := match Tryd.f36.body with
  | some (.seq (.region _ o _) _) => o
  | _ => #[]
noncomputable def lml_0 : List Oper := match Tryd.f36.body with
  | some (.seq (.region _ o _) _) => o.toList
  | _ => []
theorem eml_0 : rml_0.toList = lml_0 := rfl
noncomputable def rml_1 : Array Oper := match Tryd.f36.body with
  | some (.seq _ (.seq (.region _ o _) _)) => o
  | _ => #[]
noncomputable def lml_1 : List Oper := match Tryd.f36.body with
  | some (.seq _ (.seq (.region _ o _) _)) => o.toList
  | _ => []
theorem eml_1 : rml_1.toList = lml_1 := rfl
noncomputable def rml_2 : Array Oper := match Tryd.f36.body with
  | some (.seq _ (.seq _ (.seq (.region _ o _) _))) => o
  | _ => #[]
noncomputable def lml_2 : List Oper := match Tryd.f36.body with
  | some (.seq _ (.seq _ (.seq (.region _ o _) _))) => o.toList
  | _ => []
theorem eml_2 : rml_2.toList = lml_2 := rfl
noncomputable def rml_3 : Array Oper := match Tryd.f36.body with
  | some (.seq _ (.seq _ (.seq _ (.seq (.region _ o _) _)))) => o
  | _ => #[]
noncomputable def lml_3 : List Oper := match Tryd.f36.body with
  | some (.seq _ (.seq _ (.seq _ (.seq (.region _ o _) _)))) => o.toList
  | _ => []
theorem eml_3 : rml_3.toList = lml_3 := rfl
noncomputable def rml_4 : Array Oper := match Tryd.f36.body with
  | some (.seq _ (.seq _ (.seq _ (.seq _ (.seq (.region _ o _) _))))) => o
  | _ => #[]
noncomputable def lml_4 : List Oper := match Tryd.f36.body with
  | some (.seq _ (.seq _ (.seq _ (.seq _ (.seq (.region _ o _) _))))) => o.toList
  | _ => []
theorem eml_4 : rml_4.toList = lml_4 := rfl
noncomputable def rml_5 : Array Oper := match Tryd.f36.body with
  | some (.seq _ (.seq _ (.seq _ (.seq _ (.seq _ (.seq (.region _ o _) _)))))) => o
  | _ => #[]
noncomputable def lml_5 : List Oper := match Tryd.f36.body with
  | some (.seq _ (.seq _ (.seq _ (.seq _ (.seq _ (.seq (.region _ o _) _)))))) => o.toList
  | _ => []
theorem eml_5 : rml_5.toList = lml_5 := rfl
noncomputable def rml_6 : Array Oper := match Tryd.f36.body with
  | some (.seq _ (.seq _ (.seq _ (.seq _ (.seq _ (.seq _ (.seq (.region _ o _) _))))))) => o
  | _ => #[]
noncomputable def lml_6 : List Oper := match Tryd.f36.body with
  | some (.seq _ (.seq _ (.seq _ (.seq _ (.seq _ (.seq _ (.seq (.region _ o _) _))))))) => o.toList
  | _ => []
theorem eml_6 : rml_6.toList = lml_6 := rfl
noncomputable def rml_7 : Array Oper := match Tryd.f36.body with
  | some (.seq _ (.seq _ (.seq _ (.seq _ (.seq _ (.seq _ (.seq _ (.seq (.region _ o _) _)))))))) => o
  | _ => #[]
noncomputable def lml_7 : List Oper := match Tryd.f36.body with
  | some (.seq _ (.seq _ (.seq _ (.seq _ (.seq _ (.seq _ (.seq _ (.seq (.region _ o _) _)))))))) => o.toList
  | _ => []
theorem eml_7 : rml_7.toList = lml_7 := rfl
noncomputable def rml_8 : Array Oper := match Tryd.f36.body with
  | some (.seq _ (.seq _ (.seq _ (.seq _ (.seq _ (.seq _ (.seq _ (.seq _ (.seq (.region _ o _) _))))))))) => o
  | _ => #[]
noncomputable def lml_8 : List Oper := match Tryd.f36.body with
  | some (.seq _ (.seq _ (.seq _ (.seq _ (.seq _ (.seq _ (.seq _ (.seq _ (.seq (.region _ o _) _))))))))) => o.toList
  | _ => []
theorem eml_8 : rml_8.toList = lml_8 := rfl
noncomputable def rml_9 : Array Oper := match Tryd.f36.body with
  | some (.seq _ (.seq _ (.seq _ (.seq _ (.seq _ (.seq _ (.seq _ (.seq _ (.seq _ (.seq (.region _ o _) _)))))))))) => o
  | _ => #[]
noncomputable def lml_9 : List Oper := match Tryd.f36.body with
  | some (.seq _ (.seq _ (.seq _ (.seq _ (.seq _ (.seq _ (.seq _ (.seq _ (.seq _ (.seq (.region _ o _) _)))))))))) => o.toList
  | _ => []
theorem eml_9 : rml_9.toList = lml_9 := rfl
noncomputable def rml_10 : Array Oper := match Tryd.f36.body with
  | some (.seq _ (.seq _ (.seq _ (.seq _ (.seq _ (.seq _ (.seq _ (.seq _ (.seq _ (.seq _ (.seq (.region _ o _) _))))))))))) => o
  | _ => #[]
noncomputable def lml_10 : List Oper := match Tryd.f36.body with
  | some (.seq _ (.seq _ (.seq _ (.seq _ (.seq _ (.seq _ (.seq _ (.seq _ (.seq _ (.seq _ (.seq (.region _ o _) _))))))))))) => o.toList
  | _ => []
theorem eml_10 : rml_10.toList = lml_10 := rfl
noncomputable def rml_11 : Array Oper := match Tryd.f36.body with
  | some (.seq _ (.seq _ (.seq _ (.seq _ (.seq _ (.seq _ (.seq _ (.seq _ (.seq _ (.seq _ (.seq _ (.seq (.region _ o _) _)))))))))))) => o
  | _ => #[]
noncomputable def lml_11 : List Oper := match Tryd.f36.body with
  | some (.seq _ (.seq _ (.seq _ (.seq _ (.seq _ (.seq _ (.seq _ (.seq _ (.seq _ (.seq _ (.seq _ (.seq (.region _ o _) _)))))))))))) => o.toList
  | _ => []
theorem eml_11 : rml_11.toList = lml_11 := rfl
theorem bodyml : Tryd.f36.body = some (.seq (.region 0 rml_0 false) (.seq (.region 1 rml_1 false) (.seq (.region 2 rml_2 false) (.seq (.region 3 rml_3 false) (.seq (.region 4 rml_4 false) (.seq (.region 5 rml_5 false) (.seq (.region 6 rml_6 false) (.seq (.region 7 rml_7 false) (.seq (.region 8 rml_8 false) (.seq (.region 9 rml_9 false) (.seq (.region 10 rml_10 false) (.seq (.region 11 rml_11 false) .ret)))))))))))) := rfl
-- ntmps 51
-- ntmps 39
-- ntmps 61
def Ans (self : Self) (f : FuncId) (args : List Value) (v : Value) : Prop := ∀ M : Mem, ainv E self f args M = some (v, M)
theorem wrapU (x : Nat) : wrapF .u64 ((x : Nat) : Int) = ((x % 18446744073709551616 : Nat) : Int) := by simp only [wrapF]; omega
theorem addN (x y : Nat) : abin .add .u64 ((x : Nat) : Int) .u64 ((y : Nat) : Int) = some (.int .u64 (((x + y) % 18446744073709551616 : Nat) : Int)) := by
  have : abin .add .u64 ((x : Nat) : Int) .u64 ((y : Nat) : Int) = some (.int .u64 (wrapF .u64 (((x : Nat) : Int) + ((y : Nat) : Int)))) := by kernel_rfl
  rw [this, ← Int.natCast_add, wrapU]
theorem mulN (x y : Nat) : abin .mul .u64 ((x : Nat) : Int) .u64 ((y : Nat) : Int) = some (.int .u64 (((x * y) % 18446744073709551616 : Nat) : Int)) := by
  have : abin .mul .u64 ((x : Nat) : Int) .u64 ((y : Nat) : Int) = some (.int .u64 (wrapF .u64 (((x : Nat) : Int) * ((y : Nat) : Int)))) := by kernel_rfl
  rw [this, ← Int.natCast_mul, wrapU]
theorem shr32 (x : Nat) : abin .shr .u64 ((x : Nat) : Int) .u64 32 = some (.int .u64 ((x / 4294967296 : Nat) : Int)) := shrU (n := 32) (by decide)
theorem and_mask {x k : Nat} (hk : k ≤ 64) (hx : x < 18446744073709551616) : abin .and .u64 ((x : Nat) : Int) .u64 (((2 ^ k - 1 : Nat)) : Int) = some (.int .u64 ((x % 2 ^ k : Nat) : Int)) := by
  have hb : 2 ^ k ≤ 2 ^ 64 := Nat.pow_le_pow_right (by decide) hk
  have hpos : 0 < 2 ^ k := Nat.pow_pos (by decide)
  have e1 : (((x : Nat) : Int) % 18446744073709551616).toNat = x := by omega
  have e2 : ((((2 ^ k - 1 : Nat)) : Int) % 18446744073709551616).toNat = 2 ^ k - 1 := by
    generalize 2 ^ k = q at *
    omega
  rw [andU, e1, e2, Nat.and_two_pow_sub_one_eq_mod, wrapU, Nat.mod_eq_of_lt (Nat.lt_of_le_of_lt (Nat.mod_le _ _) hx)]
theorem and32 {x : Nat} (hx : x < 18446744073709551616) : abin .and .u64 ((x : Nat) : Int) .u64 4294967295 = some (.int .u64 ((x % 4294967296 : Nat) : Int)) := and_mask (k := 32) (by decide) hx
section
variable {self : Self} {nf : Nat} {m : Mem} {x y : Nat}
theorem ml_body (hx : x < 18446744073709551616) (hy : y < 18446744073709551616) :
    abody E self nf 36 [.int .u64 (x : Nat), .int .u64 (y : Nat)] m = some (pair64 (x * y / 18446744073709551616) (x * y % 18446744073709551616), m) := by
  rw [abody_eqF (by kernel_rfl) Tryd.func36 bodyml (by kernel_rfl) (Nat.le_of_ble_eq_true rfl)]
  rw [show Tryd.f36.ntmps = 51 from rfl]
  have a1 := and32 hx
  have a2 := and32 hy
  have a3 : ∀ t : Nat, abin .and .u64 ((t % 18446744073709551616 : Nat) : Int) .u64 4294967295 = some (.int .u64 ((t % 18446744073709551616 % 4294967296 : Nat) : Int)) := fun t => and32 (Nat.mod_lt _ (by decide))
  have hm := mul64_ok hx hy rfl rfl rfl rfl rfl rfl rfl rfl rfl rfl
  simp only [eml_0, eml_1, eml_10, eml_11, eml_2, eml_3, eml_4, eml_5, eml_6, eml_7, eml_8, eml_9, lml_0, lml_1, lml_2, lml_3, lml_4, lml_5, lml_6, lml_7, lml_8, lml_9, lml_10, lml_11, agd_none, gdAt, gdV_bool, gdV_undef, Tryd.f36, List.append_eq, List.cons_append, List.nil_append, apure_call1, apure_call2, apure_call3, bft, btf, acodeN, List.getElem?_toArray, List.getElem?_cons_zero, List.getElem?_cons_succ, aopsN, adrawT, cls, astep, aop, afloat, ev, nth_lst, get_lst, aput, setAt_lst, upd_at, init_zero, init_succ, init_nil, Nat.reduceLT, Nat.reduceEqDiff, reduceIte, abuiltin, alen, Option.map_some, Option.map_none, orElse_some, apure_add, apure_eqlV, eqlVal_str, eqlVal_bool, eqlVal_ptr, eqlVal_slice, eqlVal_wide, eqlVal_int, allT, ↓aop_eqlV, apure_neq, List.map_cons, List.map_nil, List.all_cons, List.all_nil, lit2, lit1, lit0, List.isEmpty_nil, bls, Bool.false_eq_true, if_true, if_false, List.length_map, beq_self_eq_true, uns, a1, a2, a3, shr32, mulN, addN, finish, ares, aresL, ares1, hm]
  rfl
end
end Go.Am.Seat
namespace Go.Am.Seat
open Go.Proofs Go.Am Go.Am.Num
set_option maxHeartbeats 4000000
def c4 (a b c d : Nat) : List Value := [.int .u64 (a : Nat), .int .u64 (b : Nat), .int .u64 (c : Nat), .int .u64 (d : Nat)]
theorem callAdd : callableB E.P 37 = false := by kernel_rfl
theorem extAdd : E.ext 37 = some .add64 := by kernel_rfl
theorem add64C (x y c : Nat) (m : Mem) : aext .add64 [.int .u64 (x : Nat), .int .u64 (y : Nat), .int .u64 (c : Nat)] m = if c ≤ 1 then some (pair64 ((x + y + c) % 18446744073709551616) ((x + y + c) / 18446744073709551616), m) else none := by
  simp only [aext, Int.toNat_natCast]
theorem add64O (x y : Nat) (m : Mem) : aext .add64 [.int .u64 (x : Nat), .int .u64 (y : Nat), .int .u64 0] m = some (pair64 ((x + y) % 18446744073709551616) ((x + y) / 18446744073709551616), m) := by
  rw [show (0 : Int) = ((0 : Nat) : Int) from rfl, add64C, if_pos (by decide)]
  rfl
theorem ex0 (a b : Nat) : aextract (pair64 a b) 0 = some (.int .u64 ((a : Nat) : Int)) := rfl
theorem ex1 (a b : Nat) : aextract (pair64 a b) 1 = some (.int .u64 ((b : Nat) : Int)) := rfl
theorem ans_of {self : Self} {f : FuncId} {args : List Value} {v : Value} (ha : args.all lit2 = true) (hf : E.fast f = none) (hv : lit2 v = true) (h : ∀ m, ∃ m', self f args m = some (v, m')) : Ans self f args v := by
  intro M
  obtain ⟨m', h'⟩ := h ((M.take E.G).map onlyTab)
  exact ainv_lit ha hf h' hv
section
variable {self : Self} {nf : Nat} {m : Mem} {V n a b c d more : Nat}
end
end Go.Am.Seat
namespace Go.Am.Seat
open Go.Proofs Go.Am Go.Am.Num
set_option maxHeartbeats 4000000
-- ntmps 111
-- ntmps 86
theorem callMl : callableB E.P 36 = true := by kernel_rfl
section
variable {self : Self} {nf : Nat} {m : Mem} {x0 x1 x2 x3 n a b c d : Nat}
end
end Go.Am.Seat
namespace Go.Am.Num
set_option maxHeartbeats 4000000
end Go.Am.Num
namespace Go.Am.Seat
open Go.Proofs Go.Am Go.Am.Num
set_option maxHeartbeats 4000000
section
variable {self : Self} {nf : Nat} {M : Mem} {F : Nat → Value} {X Y S i p q : Nat}
end
end Go.Am.Seat
namespace Go.Am.Seat
open Go.Proofs Go.Am Go.Am.Num
set_option maxHeartbeats 4000000
section
variable {self : Self} {nf : Nat} {M : Mem} {F : Nat → Value} {X Y i p q : Nat}
end
end Go.Am.Seat
namespace Go.Am.Seat
open Go.Proofs Go.Am Go.Am.Num
set_option maxHeartbeats 4000000
section
variable {e : TypeId} {k : IntKind}
theorem pv_eqIntG (hu : E.P.underlying e = some (.int k)) (d : Nat) (a b : Int) : pv E.P (Op.equalIn (d + 1) e (.int k a) (.int k b)) = some (a == b) := by
  unfold Op.equalIn
  rw [pv_bind (pv_und hu)]
  simp
  rfl
theorem pv_partG (ha : pv E.P (isAgg e) = some false) {n : Nat} (w : Nat → Nat) {j : Nat} (h : j < n) : pv E.P (part e ⟨rowK k n w⟩ j) = some (.int k ((w j : Nat) : Int)) := by
  unfold part
  rw [pv_bind ha]
  have hg : (⟨rowK k n w⟩ : Array Value)[j]? = some (.int k ((w j : Nat) : Int)) := by
    rw [List.getElem?_toArray, rowK_get h]
  simp only [Bool.false_eq_true, if_false, hg]
  rfl
def eqBodyG (e : TypeId) (k : IntKind) (n : Nat) (u v : Nat → Nat) (i : Nat) (_s : Option Bool × Unit) : Sem (ForInStep (Option Bool × Unit)) := do
  let a ← part e ⟨rowK k n u⟩ (i * 1)
  let b ← part e ⟨rowK k n v⟩ (i * 1)
  let c ← Op.equalIn 9999 e a b
  if (!c) = true then pure (ForInStep.done (some false, ())) else pure (ForInStep.yield (none, ()))
theorem pv_bodyG (hu : E.P.underlying e = some (.int k)) (ha : pv E.P (isAgg e) = some false) {n : Nat} (u v : Nat → Nat) {i : Nat} (h : i < n) (x : Option Bool × Unit) : pv E.P (eqBodyG e k n u v i x) = some (if ((u i : Nat) : Int) == ((v i : Nat) : Int) then ForInStep.yield (none, ()) else ForInStep.done (some false, ())) := by
  unfold eqBodyG
  rw [Nat.mul_one, pv_bind (pv_partG ha u h), pv_bind (pv_partG ha v h), pv_bind (pv_eqIntG hu 9998 _ _)]
  cases hq : (((u i : Nat) : Int) == ((v i : Nat) : Int)) <;> rfl
theorem pv_loopG (hu : E.P.underlying e = some (.int k)) (ha : pv E.P (isAgg e) = some false) {n : Nat} (u v : Nat → Nat) : ∀ l : List Nat, (∀ i, i ∈ l → i < n) → pv E.P (forIn l (none, ()) (eqBodyG e k n u v)) = some (if l.all (fun j => ((u j : Nat) : Int) == ((v j : Nat) : Int)) then (none, ()) else (some false, ()))
  | [], _ => rfl
  | a :: l, h => by
    rw [List.forIn_cons, pv_bind (pv_bodyG hu ha u v (h a (by simp)) _), List.all_cons]
    cases hq : (((u a : Nat) : Int) == ((v a : Nat) : Int)) with
    | true =>
      simp only [if_true, Bool.true_and]
      exact pv_loopG hu ha u v l fun i hi => h i (by simp [hi])
    | false => rfl
theorem pv_equalG {t : TypeId} {n : Nat} (ht : ArrT t n e k) (ha : pv E.P (isAgg e) = some false) (hs : pv E.P (sizeOf e) = some 1) (u v : Nat → Nat) : pv E.P (Op.equal t (arrK k n u) (arrK k n v)) = some ((List.range n).all fun j => ((u j : Nat) : Int) == ((v j : Nat) : Int)) := by
  unfold Op.equal Op.maxDepth
  rw [show (10000 : Nat) = 9999 + 1 from rfl]
  unfold Op.equalIn arrK
  rw [pv_bind (pv_und ht.und)]
  simp only
  rw [pv_bind hs]
  simp only [Std.Legacy.Range.forIn_eq_forIn_range', Std.Legacy.Range.size, Nat.sub_zero, Nat.add_sub_cancel, Nat.div_one]
  have hl := pv_loopG ht.unde ha u v (List.range n) (fun i hi => List.mem_range.1 hi)
  rw [List.range_eq_range'] at hl ⊢
  show pv E.P (forIn (List.range' 0 n) (none, ()) (eqBodyG e k n u v) >>= _) = _
  rw [pv_bind hl]
  cases hq : (List.range' 0 n).all (fun j => ((u j : Nat) : Int) == ((v j : Nat) : Int)) <;> rfl
theorem eqlVal_arr {t : TypeId} {n : Nat} (ht : ArrT t n e k) (ha : pv E.P (isAgg e) = some false) (hs : pv E.P (sizeOf e) = some 1) (hq : E.P.eqGuardType E.P.depth t = false) {x y : Operand} (u v : Nat → Nat) :
    eqlVal E.P t x y (arrK k n u) (arrK k n v) = some (.bool ((List.range n).all fun j => ((u j : Nat) : Int) == ((v j : Nat) : Int))) := by
  have hg : pv E.P (eqGuard .eql t x y (arrK k n u) (arrK k n v)) = some () := by
    unfold eqGuard arrK
    simp only [Bool.not_true, Bool.false_eq_true, if_false]
    rw [pv_bind (a := E.P) rfl, pv_bind (a := E.P) rfl]
    rw [hq]
    rfl
  have hb : pv E.P (binOp .eql t (arrK k n u) (arrK k n v)) = some (.bool ((List.range n).all fun j => ((u j : Nat) : Int) == ((v j : Nat) : Int))) := by
    show pv E.P (Op.equal t (arrK k n u) (arrK k n v) >>= fun c => pure (Value.bool c)) = _
    rw [pv_bind (pv_equalG ht ha hs u v)]
    rfl
  unfold eqlVal
  rw [arrK_lit, arrK_lit]
  simp only [Bool.and_self, if_true]
  rw [pv_bind (a := Value.bool ((List.range n).all fun j => ((u j : Nat) : Int) == ((v j : Nat) : Int))) (by rw [pv_bind hg, hb])]
  rfl
end
noncomputable def neqVal (P : Program) (s : TypeId) (x y : Operand) (u v : Value) : Option Value :=
  if lit2 u && (lit2 v && true) then
    match pv P ((eqGuard .neq s x y u v >>= fun _ => binOp .neq s u v) >>= fun r => pure (Next.value r)) with
    | some (.value r) => if lit2 r then some r else none
    | _ => none
  else none
theorem apure_neqV {P : Program} {T : List Value} {d : Option Tmp} {s t ty : TypeId} {x y : Operand} {pos : String} {af : Array Edge} {g : Option (Nat × Bool)} :
    apure P T { dst := d, op := .binOp .neq s x y t, type := ty, pos := pos, after := af, guard := g } = neqVal P s x y (ev T x) (ev T y) := by
  unfold apure neqVal
  simp only [Op.operands, List.all_cons, List.all_nil, execOp]
  rfl
theorem neqVal_arr {e : TypeId} {k : IntKind} {t : TypeId} {n : Nat} (ht : ArrT t n e k) (ha : pv E.P (isAgg e) = some false) (hs : pv E.P (sizeOf e) = some 1) (hq : E.P.eqGuardType E.P.depth t = false) {x y : Operand} (u v : Nat → Nat) :
    neqVal E.P t x y (arrK k n u) (arrK k n v) = some (.bool !((List.range n).all fun j => ((u j : Nat) : Int) == ((v j : Nat) : Int))) := by
  have hg : pv E.P (eqGuard .neq t x y (arrK k n u) (arrK k n v)) = some () := by
    unfold eqGuard arrK
    simp only [Bool.not_true, Bool.false_eq_true, if_false]
    rw [pv_bind (a := E.P) rfl, pv_bind (a := E.P) rfl]
    rw [hq]
    rfl
  have hb : pv E.P (binOp .neq t (arrK k n u) (arrK k n v)) = some (.bool !((List.range n).all fun j => ((u j : Nat) : Int) == ((v j : Nat) : Int))) := by
    show pv E.P (Op.equal t (arrK k n u) (arrK k n v) >>= fun c => pure (Value.bool !c)) = _
    rw [pv_bind (pv_equalG ht ha hs u v)]
    rfl
  unfold neqVal
  rw [arrK_lit, arrK_lit]
  simp only [Bool.and_self, if_true]
  rw [pv_bind (a := Value.bool !((List.range n).all fun j => ((u j : Nat) : Int) == ((v j : Nat) : Int))) (by rw [pv_bind hg, hb])]
  rfl
end Go.Am.Seat
namespace Go.Am.Seat
open Go.Proofs Go.Am Go.Am.Num
set_option maxHeartbeats 4000000
-- ntmps 46
-- ntmps 44
-- ntmps 9
-- ntmps 6
-- ntmps 7
-- ntmps 6
-- ntmps 8
-- ntmps 8
section
variable {self : Self} {nf : Nat} {m : Mem} {X Y : Nat}
end
end Go.Am.Seat
