/-
  Texts of my own, put together: Y2, KW8, M7, M8, KW9, KWA, M9, KWB, T, X1.
-/
import Derived.Test.YtgkolikpojpffaaDoorGrLimbLaws25
import Derived.Test.YtgkolikpojpffaaDoorGrLimbLaws14
import Derived.Test.YtgkolikpojpffaaDoorGrLimbLaws8
import Derived.Lib.LaidTab
import Derived.ChangeShapes
import Derived.Test.YtgkolikpojpffaaDoorGrLimbLaws0
set_option linter.unusedSimpArgs false
set_option linter.unusedVariables false
set_option maxRecDepth 100000
namespace Go.Am.Seat
open Go.Proofs Go.Am
def lenV (v : Value) : Option Int := match v with
  | .slice none 0 0 => some 0
  | .slice (some _) n _ => some ((n : Nat) : Int)
  | _ => none
def NumA (m : Mem) (v : Value) (l : List Nat) : Prop := lenV v = some ((l.length : Nat) : Int) ∧
  ∀ (i x : Nat), l[i]? = some x → ∃ b o, aindexAddr E.P 27 v (.int .i64 (i : Nat)) = some (.pointer (some ⟨b, o, none⟩)) ∧ cellAt m b o = some (.int .i64 (x : Nat))
theorem NumA.nil (m : Mem) : NumA m (.slice none 0 0) [] := ⟨rfl, fun i x h => by simp at h⟩
theorem cell_in {m : Mem} {b o : Nat} {v : Value} (h : cellAt m b o = some v) : b < m.length := by
  by_cases hb : b < m.length
  · exact hb
  · have : look m b = none := by
      unfold look
      rw [List.getElem?_eq_none (by omega)]
    unfold cellAt at h
    rw [this] at h
    cases h
theorem cell_same {m m' : Mem} {b : Nat} (h : m'[b]? = m[b]?) (o : Nat) : cellAt m' b o = cellAt m b o := by
  unfold cellAt look
  rw [h]
theorem cell_sealed (m : Mem) (b o : Nat) : cellAt (m.map sealed) b o = cellAt m b o := by
  unfold cellAt look
  rw [List.getElem?_map]
  cases m[b]? with
  | none => rfl
  | some x => cases x <;> rfl
theorem NumA.keep {m m' : Mem} {v : Value} {l : List Nat} (h : NumA m v l) (hk : ∀ k, k < m.length → m'[k]? = m[k]?) : NumA m' v l := by
  refine ⟨h.1, fun i x hx => ?_⟩
  obtain ⟨b, o, h1, h2⟩ := h.2 i x hx
  exact ⟨b, o, h1, by rw [cell_same (hk b (cell_in h2))]; exact h2⟩
theorem NumA.sealed {m : Mem} {v : Value} {l : List Nat} (h : NumA m v l) : NumA (m.map sealed) v l := by
  refine ⟨h.1, fun i x hx => ?_⟩
  obtain ⟨b, o, h1, h2⟩ := h.2 i x hx
  exact ⟨b, o, h1, by rw [cell_sealed]; exact h2⟩
theorem NumA.lit {m : Mem} {v : Value} {l : List Nat} (h : NumA m v l) (hv : lit2 v = true) : v = .slice none 0 0 ∧ l = [] := by
  have h1 := h.1
  unfold lenV at h1
  split at h1
  · simp only [Option.some.injEq] at h1
    exact ⟨rfl, List.eq_nil_of_length_eq_zero (by omega)⟩
  · simp [lit2, lit1, lit0] at hv
  · cases h1
theorem NumA.row {m : Mem} {b n c : Nat} {ro : Bool} {L : List Nat} (h : m[b]? = some (.row ro 3 (cellsN L))) (hn : n ≤ L.length) : NumA m (.slice (some ⟨b, 0, none⟩) n c) (L.take n) := by
  refine ⟨by simp only [lenV, List.length_take, Nat.min_eq_left hn], fun i x hx => ⟨b, i, ?_, ?_⟩⟩
  · have hi : i < n := by
      have := (List.getElem?_eq_some_iff.1 hx).1
      rw [List.length_take] at this
      omega
    exact ix27 hi
  · have hi : i < n := by
      have := (List.getElem?_eq_some_iff.1 hx).1
      rw [List.length_take] at this
      omega
    rw [List.getElem?_take, if_pos hi] at hx
    rw [cellAt_row h, cellsN_get hx]
def NumR (m : Mem) (v : Value) (m' : Mem) (r : Nat) : Prop := (v = .slice none 0 0 ∧ m' = m ∧ r = 0) ∨
  ∃ (L : List Nat) (n : Nat), n ≤ L.length ∧ L.take n = dig r ∧ v = .slice (some ⟨m.length, 0, none⟩) n L.length ∧ m' = m ++ [.row false 3 (cellsN L)] ∧ L ≠ []
theorem NumR.is {m m' : Mem} {v : Value} {r : Nat} (h : NumR m v m' r) : NumA m' v (dig r) := by
  rcases h with ⟨rfl, rfl, rfl⟩ | ⟨L, n, h1, h2, rfl, rfl, hne⟩
  · rw [dig_zero]; exact NumA.nil _
  · rw [← h2]
    exact NumA.row (ro := false) (by simp) h1
theorem NumR.kept {m m' : Mem} {v : Value} {r : Nat} (h : NumR m v m' r) : ∀ k, k < m.length → m'[k]? = m[k]? := by
  rcases h with ⟨rfl, rfl, rfl⟩ | ⟨L, n, h1, h2, rfl, rfl, hne⟩
  · exact fun _ _ => rfl
  · exact fun k hk => List.getElem?_append_left hk
def Runs (R : Nat → Self) (K : List Fact) : Prop := ∀ (n : Nat) (f : FuncId) (args : List Value) (m : Mem) (r : Value × Mem), hasF K f = false → abody E (R n) (n + 1) f args m = some r → R (n + 1) f args m = some r
theorem Runs.b {R : Nat → Self} {K : List Fact} (hR : Runs R K) {n : Nat} {f : FuncId} {args : List Value} {m : Mem} {r : Value × Mem} (hK : hasF K f = false) (h : abody E (R n) (n + 1) f args m = some r) : R (n + 1) f args m = some r := hR n f args m r hK h
theorem runsK (M : Mem) (K : List Fact) : Runs (fun n => runK E M K n) K := fun n f args m r hK h => (runK_other hK).trans h
end Go.Am.Seat
namespace Go.Am.Seat
open Go.Proofs Go.Am Go.Am.Num Go.Am.Kn
def limbFs : List FuncId := [83, 44, 65, 64, 63, 84, 85, 86, 68, 43, 18, 46, 47, 67, 66, 69, 29, 21, 38, 39, 41, 9, 13, 42, 17]
def NoL (K : List Fact) : Prop := ∀ f ∈ limbFs, hasF K f = false
theorem div_of {x y q r : Nat} (h : x = q * y + r) (hr : r < y) : x / y = q ∧ x % y = r := (Nat.div_mod_unique (by omega)).2 ⟨by rw [h, Nat.mul_comm]; omega, hr⟩
section
variable {R : Nat → Self} {K : List Fact} (hR : Runs R K) (hK : NoL K) {n : Nat}
include hR hK
theorem kMl (hn : 1001 ≤ n) : Ml64 (R n) := by
  obtain ⟨j, rfl⟩ : ∃ j, n = j + 1 := ⟨n - 1, by omega⟩
  exact fun x y hx hy => ans_of rfl (by kernel_rfl) rfl fun m => ⟨_, hR.b (hK _ (by decide)) (ml_body hx hy)⟩
theorem kLn (hn : 1001 ≤ n) {x : Nat} (hx : x < 18446744073709551616) : Ans (R n) 44 [U x] (.int .i64 ((lenW x : Nat) : Int)) := by
  obtain ⟨j, rfl⟩ : ∃ j, n = j + 1 := ⟨n - 1, by omega⟩
  exact ans_of rfl (by kernel_rfl) rfl fun m => ⟨_, hR.b (hK _ (by decide)) (ln64_body hx)⟩
theorem kLz (hn : 1002 ≤ n) {x : Nat} (hx : x < 18446744073709551616) : Ans (R n) 65 [U x] (.int .i64 ((64 - lenW x : Nat) : Int)) := by
  obtain ⟨j, rfl⟩ : ∃ j, n = j + 1 := ⟨n - 1, by omega⟩
  exact ans_of rfl (by kernel_rfl) rfl fun m => ⟨_, hR.b (hK _ (by decide)) (lz_body (kLn hR hK (by omega) hx))⟩
theorem kDv64 (hn : 1003 ≤ n) : CDv64 (R n) := by
  obtain ⟨j, rfl⟩ : ∃ j, n = j + 1 := ⟨n - 1, by omega⟩
  exact fun hi lo y h1 h2 h3 => ans_of rfl (by kernel_rfl) rfl fun m => ⟨_, hR.b (hK _ (by decide)) (dv64_body h1 h2 h3 (kLz hR hK (by omega) h2) (by omega))⟩
theorem kMs (hn : 1002 ≤ n) : CMs (R n) := by
  obtain ⟨j, rfl⟩ : ∃ j, n = j + 1 := ⟨n - 1, by omega⟩
  exact fun x y a c hx hy ha hc => ans_of rfl (by kernel_rfl) rfl fun m => ⟨_, hR.b (hK _ (by decide)) (ms_body (kMl hR hK (by omega)) hx hy ha hc)⟩
theorem kGue (hn : 1004 ≤ n) : CGue (R n) := by
  obtain ⟨j, rfl⟩ : ∃ j, n = j + 1 := ⟨n - 1, by omega⟩
  exact fun top next t v1 v2 h1 h2 h3 h4 h5 => ans_of rfl (by kernel_rfl) rfl fun m => ⟨_, hR.b (hK _ (by decide)) (gue_body (kMl hR hK (by omega)) (kDv64 hR hK (by omega)) h1 h2 h3 h4 h5 (by omega))⟩
theorem kTake (hn : 1003 ≤ n) : CTake (R n) := by
  obtain ⟨j, rfl⟩ : ∃ j, n = j + 1 := ⟨n - 1, by omega⟩
  intro m p q i k c cv often A V be be' ro h1 h2 h3 h4 h5 h6 h7 h8
  obtain ⟨A', b, h, h9⟩ := tkt_body (self := R j) (nf := j + 1) (c := c) (cv := cv) (kMs hR hK (by omega)) h1 h2 h3 h4 h5 h6 h7 h8 (by omega)
  exact ⟨A', b, (ainv_wr (by kernel_rfl) rfl).trans (hR.b (hK _ (by decide)) h), h9⟩
theorem kPut (hn : 1001 ≤ n) : CPut (R n) := by
  obtain ⟨j, rfl⟩ : ∃ j, n = j + 1 := ⟨n - 1, by omega⟩
  intro m p q i k c cv A V be be' ro h1 h2 h3 h4 h5 h6 h7
  obtain ⟨A', b, h, h9⟩ := put_body (self := R j) (nf := j + 1) (c := c) (cv := cv) h1 h2 h3 h4 h5 h6 h7 (by omega)
  exact ⟨A', b, (ainv_wr (by kernel_rfl) rfl).trans (hR.b (hK _ (by decide)) h), h9⟩
theorem kDst (hn : 1005 ≤ n) : CDst (R n) := by
  obtain ⟨j, rfl⟩ : ∃ j, n = j + 1 := ⟨n - 1, by omega⟩
  intro m p q i k c cv A V be be' ro h1 h2 h3 h4 h5 h6 h7 h8 h9
  obtain ⟨A', h, h0⟩ := dst_body (self := R j) (nf := j + 1) (c := c) (cv := cv) (kGue hR hK (by omega)) (kTake hR hK (by omega)) (kPut hR hK (by omega)) h1 h2 h3 h4 h5 h6 h7 h8 h9
  exact ⟨A', (ainv_wr (by kernel_rfl) rfl).trans (hR.b (hK _ (by decide)) h), h0⟩
theorem kUs (hn : 1001 ≤ n) : CUs (R n) := by
  obtain ⟨j, rfl⟩ : ∃ j, n = j + 1 := ⟨n - 1, by omega⟩
  intro w
  obtain ⟨k, _, hu, _⟩ := wus_body (self := R j) (nf := j + 1) (m := []) (w := w) (by omega)
  refine ⟨k, hu, ans_of rfl (by kernel_rfl) rfl fun m => ?_⟩
  obtain ⟨k2, m', hu2, h⟩ := wus_body (self := R j) (nf := j + 1) (m := m) (w := w) (by omega)
  rw [hu2.uniq hu] at h
  exact ⟨m', hR.b (hK _ (by decide)) h⟩
theorem kCmp (hn : 1001 ≤ n) : CCmpW (R n) := by
  obtain ⟨j, rfl⟩ : ∃ j, n = j + 1 := ⟨n - 1, by omega⟩
  intro x y hx hy
  refine ans_of rfl (by kernel_rfl) rfl fun m => ?_
  obtain ⟨m', h⟩ := wcmp_body (self := R j) (nf := j + 1) (m := m) (wN_lt x) (wN_lt y) (by omega)
  rw [vN_wN8 hx, vN_wN8 hy] at h
  exact ⟨m', hR.b (hK _ (by decide)) h⟩
theorem kDw (hn : 1004 ≤ n) : CDw (R n) := by
  obtain ⟨j, rfl⟩ : ∃ j, n = j + 1 := ⟨n - 1, by omega⟩
  intro x d hx h0 hd
  refine ans_of rfl (by kernel_rfl) rfl fun m => ?_
  obtain ⟨o, l, m', e1, e2, ho, h⟩ := dw_body (self := R j) (nf := j + 1) (m := m) (kDv64 hR hK (by omega)) (wN_lt x) h0 hd (by omega)
  rw [vN_wN8 hx] at e1
  obtain ⟨e3, e4⟩ := div_of e1 e2
  rw [wide_num ho, ← e3, ← e4] at h
  exact ⟨m', hR.b (hK _ (by decide)) h⟩
theorem kUp (hn : 1001 ≤ n) {w : Nat → Nat} {b : Nat} (hw : ∀ j, w j < 18446744073709551616) (hb : b < 64) : Ans (R n) 66 [wide w, .int .i64 ((b : Nat) : Int)] (wide (upW w 0 b)) := by
  obtain ⟨j, rfl⟩ : ∃ j, n = j + 1 := ⟨n - 1, by omega⟩
  refine ans_of rfl (by kernel_rfl) rfl fun m => ?_
  obtain ⟨m', h⟩ := up_body (self := R j) (nf := j + 1) (m := m) (n := b) (by omega) hw (by omega)
  rw [Nat.div_eq_of_lt hb, Nat.mod_eq_of_lt hb] at h
  exact ⟨m', hR.b (hK _ (by decide)) h⟩
theorem kDown (hn : 1001 ≤ n) {w : Nat → Nat} {b : Nat} (hw : ∀ j, w j < 18446744073709551616) (hb : b < 64) : Ans (R n) 69 [wide w, .int .i64 ((b : Nat) : Int)] (wide (dnW w 0 b)) := by
  obtain ⟨j, rfl⟩ : ∃ j, n = j + 1 := ⟨n - 1, by omega⟩
  refine ans_of rfl (by kernel_rfl) rfl fun m => ?_
  obtain ⟨m', h⟩ := dn_body (self := R j) (nf := j + 1) (m := m) (n := b) (by omega) hw (by omega)
  rw [Nat.div_eq_of_lt hb, Nat.mod_eq_of_lt hb] at h
  exact ⟨m', hR.b (hK _ (by decide)) h⟩
theorem kSpr (hn : 1002 ≤ n) {w : Nat → Nat} {b : Nat} (hw : ∀ j, w j < 18446744073709551616) (hb : b < 64) : Ans (R n) 67 [wide w, .int .i64 ((b : Nat) : Int)] (arrK .u64 9 (sprW (upW w 0 b) (w 7 / 2 ^ (64 - b)))) := by
  obtain ⟨j, rfl⟩ : ∃ j, n = j + 1 := ⟨n - 1, by omega⟩
  refine ans_of rfl (by kernel_rfl) rfl fun m => ?_
  obtain ⟨m', h⟩ := spr_body (self := R j) (nf := j + 1) (m := m) (w := w) (kUp hR hK (by omega) hw hb) (by omega)
  exact ⟨m', hR.b (hK _ (by decide)) h⟩
theorem kDlg (hn : 1006 ≤ n) : CDlg (R n) := by
  obtain ⟨j, rfl⟩ : ∃ j, n = j + 1 := ⟨n - 1, by omega⟩
  intro x y k hx hy hu
  refine ans_of rfl (by kernel_rfl) rfl fun m => ?_
  have hk : wN y (k + 1) ≠ 0 := by
    rcases hu.2.2 with h | h
    · omega
    · exact h
  obtain ⟨n1, n2, n3⟩ := norm_lz (wN_lt y (k + 1)) (Nat.pos_of_ne_zero hk)
  obtain ⟨k2, hu2, ha2⟩ := kUs (n := j) hR hK (by omega) (wN y)
  rw [hu2.uniq hu] at ha2
  obtain ⟨o, l, m', e1, e2, ho, hl, h⟩ := dlg_body (self := R j) (nf := j + 1) (m := m) (kDst hR hK (by omega)) (wN_lt x) (wN_lt y) hu n1 n2 n3 ha2 (kLz hR hK (by omega) (wN_lt y (k + 1))) (kUp hR hK (by omega) (wN_lt y) n1) (kSpr hR hK (by omega) (wN_lt x) n1) (fun R' hR' => kDown hR hK (by omega) hR' n1) (by omega)
  rw [vN_wN8 hx, vN_wN8 hy] at e1
  rw [vN_wN8 hy] at e2
  obtain ⟨e3, e4⟩ := div_of e1 e2
  rw [wide_num ho, wide_num hl, ← e3, ← e4] at h
  exact ⟨m', hR.b (hK _ (by decide)) h⟩
theorem kOf (hn : 1001 ≤ n) : COfW (R n) := by
  obtain ⟨j, rfl⟩ : ∃ j, n = j + 1 := ⟨n - 1, by omega⟩
  intro x hx
  refine ans_of rfl (by kernel_rfl) rfl fun m => ?_
  obtain ⟨m', h⟩ := wof_body (self := R j) (nf := j + 1) (m := m) (x := x)
  rw [← wd_small hx] at h
  exact ⟨m', hR.b (hK _ (by decide)) h⟩
theorem kDiv (hn : 1007 ≤ n) : CDivW (R n) := by
  obtain ⟨j, rfl⟩ : ∃ j, n = j + 1 := ⟨n - 1, by omega⟩
  intro x y hx hy
  refine ans_of rfl (by kernel_rfl) (by split <;> rfl) fun m => ?_
  obtain ⟨m', h⟩ := dvw_body (self := R j) (nf := j + 1) (m := m) hx hy (kCmp hR hK (by omega)) (kUs hR hK (by omega)) (kDw hR hK (by omega)) (kDlg hR hK (by omega)) (kOf hR hK (by omega))
  exact ⟨m', hR.b (hK _ (by decide)) h⟩
theorem kEacA (hn : 1002 ≤ n) : CEac (R n) 39 addF addG := by
  obtain ⟨j, rfl⟩ : ∃ j, n = j + 1 := ⟨n - 1, by omega⟩
  obtain ⟨i, rfl⟩ : ∃ i, j = i + 1 := ⟨j - 1, by omega⟩
  intro w v hw hv
  refine ans_of rfl (by kernel_rfl) rfl fun m => ?_
  obtain ⟨m', h⟩ := eac_body (self := R (i + 1)) (nf := i + 1 + 1) (m := m) (id := 39) (f := addF) (g := addG) (by kernel_rfl) (fun x y c _ _ hc => ans_of rfl (by kernel_rfl) rfl fun m => ⟨_, hR.b (hK _ (by decide)) (ast_body hc)⟩) addG_le hw hv (by omega)
  exact ⟨m', hR.b (hK _ (by decide)) h⟩
theorem kEacS (hn : 1002 ≤ n) : CEac (R n) 41 subF subG := by
  obtain ⟨j, rfl⟩ : ∃ j, n = j + 1 := ⟨n - 1, by omega⟩
  obtain ⟨i, rfl⟩ : ∃ i, j = i + 1 := ⟨j - 1, by omega⟩
  intro w v hw hv
  refine ans_of rfl (by kernel_rfl) rfl fun m => ?_
  obtain ⟨m', h⟩ := eac_body (self := R (i + 1)) (nf := i + 1 + 1) (m := m) (id := 41) (f := subF) (g := subG) (by kernel_rfl) (fun x y c _ _ hc => ans_of rfl (by kernel_rfl) rfl fun m => ⟨_, hR.b (hK _ (by decide)) (sst_body hc)⟩) subG_le hw hv (by omega)
  exact ⟨m', hR.b (hK _ (by decide)) h⟩
theorem kAdd (hn : 1003 ≤ n) : CAddW (R n) := by
  obtain ⟨j, rfl⟩ : ∃ j, n = j + 1 := ⟨n - 1, by omega⟩
  intro x y hx hy
  refine ans_of rfl (by kernel_rfl) rfl fun m => ?_
  obtain ⟨e1, e2⟩ := add_num hx hy
  obtain ⟨m', h⟩ := wadd_body (self := R j) (nf := j + 1) (m := m) (kEacA hR hK (by omega) (wN x) (wN y) (wN_lt x) (wN_lt y)) e2
  rw [e1] at h
  exact ⟨m', hR.b (hK _ (by decide)) h⟩
theorem kSub (hn : 1003 ≤ n) : CSubW (R n) := by
  obtain ⟨j, rfl⟩ : ∃ j, n = j + 1 := ⟨n - 1, by omega⟩
  intro x y hx hy
  refine ans_of rfl (by kernel_rfl) rfl fun m => ?_
  obtain ⟨e1, e2⟩ := sub_num hx hy
  obtain ⟨m', h⟩ := wsub_body (self := R j) (nf := j + 1) (m := m) (kEacS hR hK (by omega) (wN x) (wN y) (wN_lt x) (wN_lt y)) e2
  rw [e1] at h
  exact ⟨m', hR.b (hK _ (by decide)) h⟩
theorem kPrd (hn : 1003 ≤ n) : CPrd (R n) := by
  obtain ⟨j, rfl⟩ : ∃ j, n = j + 1 := ⟨n - 1, by omega⟩
  intro x y hx hy
  refine ans_of rfl (by kernel_rfl) rfl fun m => ?_
  obtain ⟨A, hA, hs, m', h⟩ := prd_body (self := R j) (nf := j + 1) (m := m) (kMs hR hK (by omega)) (kUs hR hK (by omega)) (wN_lt x) (wN_lt y) (by omega)
  rw [vN_wN8 hx, vN_wN8 hy] at hs
  obtain ⟨e1, e2⟩ := prd_num hA hs
  rw [e1, e2] at h
  exact ⟨m', hR.b (hK _ (by decide)) h⟩
theorem kMul (hn : 1004 ≤ n) : CMulW (R n) := by
  obtain ⟨j, rfl⟩ : ∃ j, n = j + 1 := ⟨n - 1, by omega⟩
  intro x y hx hy
  refine ans_of rfl (by kernel_rfl) rfl fun m => ?_
  have hd : x * y / W8 < W8 := Nat.div_lt_of_lt_mul (Nat.lt_of_le_of_lt (Nat.mul_le_mul_left x (Nat.le_of_lt hy)) (Nat.mul_lt_mul_of_pos_right hx W8_pos))
  have e : decide (x * y / W8 = 0) = decide (x * y < W8) := by
    rw [Bool.eq_iff_iff, decide_eq_true_eq, decide_eq_true_eq]
    exact Nat.div_eq_zero_iff_lt W8_pos
  obtain ⟨m', h⟩ := wmul_body (self := R j) (nf := j + 1) (m := m) (kPrd hR hK (by omega) x y hx hy) fun i k => by rw [eqlWd0 hd, e]
  exact ⟨m', hR.b (hK _ (by decide)) h⟩
end
end Go.Am.Seat
namespace Go.Am.Seat
open Go.Proofs Go.Am
set_option maxHeartbeats 4000000
-- ntmps 89
theorem callA1 : callableB E.P 7 = true := by kernel_rfl
section
variable {self : Self} {nf : Nat} {M : Mem} {F : Nat → Value} {w s : Nat → Nat} {n i : Int} {p q N : Nat} {L : List Value}
end
end Go.Am.Seat
namespace Go.Am.Seat
open Go.Proofs Go.Am
set_option maxHeartbeats 4000000
section
variable {self : Self} {nf : Nat} {Z : Mem} {w : Nat → Nat} {n i : Int} {N : Nat} {L : List Value}
end
abbrev K1 : List Fact := [awakeF1]
theorem K1_hold (F : Fact) (h : F ∈ K1) : F.holds E.P mem1 := by
  simp only [List.mem_cons, List.not_mem_nil, or_false] at h
  subst h
  exact awake01
theorem awake1_call (x : Mem) : ainv E (runK E mem1 K1 2000) 7 [] (mem1 ++ x) = some (.bool true, mem1 ++ x) := by
  have h : runK E mem1 K1 2000 7 [] mem1 = some (.bool true, mem1) := by kernel_rfl
  exact ainv_lit rfl (by kernel_rfl) (by rw [show ((mem1 ++ x).take E.G).map onlyTab = mem1 from rfl]; exact h) rfl
end Go.Am.Seat
namespace Go.Am.Seat
open Go.Proofs Go.Am Go.Am.Num Go.Am.Kn
theorem callWAdd : callableB E.P 9 = true := by kernel_rfl
theorem callWSub : callableB E.P 13 = true := by kernel_rfl
theorem callWMul : callableB E.P 17 = true := by kernel_rfl
theorem callWDiv : callableB E.P 21 = true := by kernel_rfl
theorem neqWd {x y : Nat} {a b : Operand} (hx : x < W8) (hy : y < W8) : neqVal E.P 24 a b (wd x) (wd y) = some (.bool !(decide (x = y))) := by
  have h := neqVal_arr a24w (by kernel_rfl) (by kernel_rfl) (by kernel_rfl) (x := a) (y := b) (wN x) (wN y)
  rw [all_wN hx hy] at h
  exact h
theorem neqBo (a b : Bool) {x y : Operand} : neqVal E.P 4 x y (.bool a) (.bool b) = some (.bool (a != b)) := by cases a <;> cases b <;> kernel_rfl
theorem exT0 (a b c : Value) : aextract (.tuple ⟨[a, b, c]⟩) 0 = some a := rfl
theorem exT1 (a b c : Value) : aextract (.tuple ⟨[a, b, c]⟩) 1 = some b := rfl
theorem exT2 (a b c : Value) : aextract (.tuple ⟨[a, b, c]⟩) 2 = some c := rfl
noncomputable def neqI (P : Program) (s : TypeId) (x y : Operand) (u v : Value) : Option Value := match u with
  | .int k a => (match v with
    | .int k' b => (match abin .neq k a k' b with
      | some w => some w
      | none => neqVal P s x y u v)
    | _ => neqVal P s x y u v)
  | _ => neqVal P s x y u v
theorem aop_neqI {P : Program} {T : List Value} {m : Mem} {d : Option Tmp} {s t ty : TypeId} {x y : Operand} {pos : String} {af : Array Edge} {g : Option (Nat × Bool)} :
    aop P T m { dst := d, op := .binOp .neq s x y t, type := ty, pos := pos, after := af, guard := g } = (neqI P s x y (ev T x) (ev T y)).map (·, m) := by
  have hp := apure_neqV (P := P) (T := T) (d := d) (s := s) (t := t) (ty := ty) (x := x) (y := y) (pos := pos) (af := af) (g := g)
  unfold aop neqI
  simp only
  cases hx : ev T x with
  | int k a =>
    cases hy : ev T y with
    | int k' b =>
      simp only
      cases abin .neq k a k' b with
      | some w => rfl
      | none => simp only; rw [hp, hx, hy]
    | _ => simp only; rw [hp, hx, hy]
  | _ => simp only; rw [hp, hx]
theorem notW (b : Bool) : apU E.P .not 4 4 (.bool b) = some (.bool !b) := by cases b <;> kernel_rfl
theorem one_more {M : Mem} {n : Nat} (hl : M.length = n) (o : Nat → Nat) : ∃ m1 M', aalloc E.P 24 M = some (.pointer (some ⟨n, 0, none⟩), m1) ∧ astore E.P 24 (.pointer (some ⟨n, 0, none⟩)) (wide o) m1 = some M' ∧ M'[n]? = some (.row false 24 (rowOf o)) ∧ (∀ k, k < n → M'[k]? = M[k]?) ∧ M'.length = n + 1 := by
  have ha := alloc24 M
  rw [hl] at ha
  have g : (M ++ [Blk.row false 24 (rowOf fun _ => 0)])[n]? = some (.row false 24 (rowOf fun _ => 0)) := by rw [← hl, List.getElem?_append_right (Nat.le_refl _)]; simp
  have st := store24 (w := o) g (rowOf_length _)
  refine ⟨_, _, ha, st, by rw [List.getElem?_set_self (lt_of_at g)], fun k hk => ?_, by simp [hl]⟩
  rw [List.getElem?_set_ne (by omega), List.getElem?_append_left (by omega)]
section
variable {self : Self} {nf : Nat} {m : Mem} {F : Nat → Value} {w v o : Nat → Nat} {p q s : Nat}
theorem lla_0 {m1 m2 : Mem} (hb : abox E.P 24 (wide w) m = some (.pointer (some ⟨p, 0, none⟩), m1)) (hc : abox E.P 24 (wide v) m1 = some (.pointer (some ⟨q, 0, none⟩), m2)) (h0 : F 0 = wide w) (h1 : F 1 = wide v) :
    ∃ F', acodeN E self nf (.region 0 rlla_0 false) (lst F 116) m = some (.normal, lst F' 116, m2) ∧ F' 2 = .pointer (some ⟨p, 0, none⟩) ∧ F' 3 = .pointer (some ⟨q, 0, none⟩) := by
  simp only [olla_0, olla_1, olla_2, olla_3, olla_4, olla_5, olla_6, olla_7, olla_8, olla_9, olla_10, olla_11, olla_12, olla_13, olla_14, olla_15, glla_8_3, glla_8_8, glla_8_13, glla_8_18, glla_15_1, glla_15_4, glla_15_9, agd_none, gdAt, gdV_bool, gdV_undef, List.append_eq, List.cons_append, List.nil_append, apure_call1, apure_call2, apure_call3, bft, btf, acodeN, List.getElem?_toArray, List.getElem?_cons_zero, List.getElem?_cons_succ, aopsN, adrawT, cls, astep, aop, afloat, ev, nth_lst, get_lst, aput, setAt_lst, upd_at, init_zero, init_succ, init_nil, Nat.reduceLT, Nat.reduceEqDiff, reduceIte, abuiltin, alen, Option.map_some, Option.map_none, orElse_some, apure_add, apure_eqlV, eqlVal_str, eqlVal_bool, eqlVal_ptr, eqlVal_slice, eqlVal_wide, eqlVal_int, allT, ↓aop_eqlV, apure_neq, List.map_cons, List.map_nil, List.all_cons, List.all_nil, lit2, lit1, lit0, List.isEmpty_nil, bls, Bool.false_eq_true, if_true, if_false, List.length_map, beq_self_eq_true, uns, h0, h1, hb, hc]
  exact ⟨_, rfl, by simp only [upd_at, Nat.reduceEqDiff, reduceIte], by simp only [upd_at, Nat.reduceEqDiff, reduceIte]⟩
theorem lla_1 (hA : ainv E self 7 [] m = some (.bool true, m)) :
    ∃ F', acodeN E self nf (.region 1 rlla_1 false) (lst F 116) m = some (.normal, lst F' 116, m) ∧ F' 23 = .bool false ∧ ∀ j, j < 22 → F' j = F j := by
  simp only [olla_0, olla_1, olla_2, olla_3, olla_4, olla_5, olla_6, olla_7, olla_8, olla_9, olla_10, olla_11, olla_12, olla_13, olla_14, olla_15, glla_8_3, glla_8_8, glla_8_13, glla_8_18, glla_15_1, glla_15_4, glla_15_9, agd_none, gdAt, gdV_bool, gdV_undef, List.append_eq, List.cons_append, List.nil_append, apure_call1, apure_call2, apure_call3, bft, btf, acodeN, List.getElem?_toArray, List.getElem?_cons_zero, List.getElem?_cons_succ, aopsN, adrawT, cls, astep, aop, afloat, ev, nth_lst, get_lst, aput, setAt_lst, upd_at, init_zero, init_succ, init_nil, Nat.reduceLT, Nat.reduceEqDiff, reduceIte, abuiltin, alen, Option.map_some, Option.map_none, orElse_some, apure_add, apure_eqlV, eqlVal_str, eqlVal_bool, eqlVal_ptr, eqlVal_slice, eqlVal_wide, eqlVal_int, allT, ↓aop_eqlV, apure_neq, List.map_cons, List.map_nil, List.all_cons, List.all_nil, lit2, lit1, lit0, List.isEmpty_nil, bls, Bool.false_eq_true, if_true, if_false, List.length_map, beq_self_eq_true, uns, callA1, hA, apure_un, notW]
  exact ⟨_, rfl, by simp only [upd_at, Nat.reduceEqDiff, reduceIte], fun j h1 => by repeat rw [upd_ne (by omega)]⟩
theorem lla_3 {m1 m2 : Mem} {b : Bool} (h2 : F 2 = .pointer (some ⟨p, 0, none⟩)) (h3 : F 3 = .pointer (some ⟨q, 0, none⟩)) (ld : aload E.P 24 (.pointer (some ⟨p, 0, none⟩)) m = some (wide w)) (ld2 : aload E.P 24 (.pointer (some ⟨q, 0, none⟩)) m = some (wide v)) (hc : ∀ M, ainv E self 9 [wide w, wide v] M = some (.tuple ⟨[wide o, .bool b]⟩, M)) (ha : aalloc E.P 24 m = some (.pointer (some ⟨s, 0, none⟩), m1)) (st : astore E.P 24 (.pointer (some ⟨s, 0, none⟩)) (wide o) m1 = some m2) :
    ∃ F', acodeN E self nf (.region 3 rlla_3 false) (lst F 116) m = some (.normal, lst F' 116, m2) ∧ F' 5 = .pointer (some ⟨s, 0, none⟩) ∧ F' 6 = .bool b ∧ ∀ j, j ≠ 5 → j ≠ 6 → j < 22 → F' j = F j := by
  simp only [olla_0, olla_1, olla_2, olla_3, olla_4, olla_5, olla_6, olla_7, olla_8, olla_9, olla_10, olla_11, olla_12, olla_13, olla_14, olla_15, glla_8_3, glla_8_8, glla_8_13, glla_8_18, glla_15_1, glla_15_4, glla_15_9, agd_none, gdAt, gdV_bool, gdV_undef, List.append_eq, List.cons_append, List.nil_append, apure_call1, apure_call2, apure_call3, bft, btf, acodeN, List.getElem?_toArray, List.getElem?_cons_zero, List.getElem?_cons_succ, aopsN, adrawT, cls, astep, aop, afloat, ev, nth_lst, get_lst, aput, setAt_lst, upd_at, init_zero, init_succ, init_nil, Nat.reduceLT, Nat.reduceEqDiff, reduceIte, abuiltin, alen, Option.map_some, Option.map_none, orElse_some, apure_add, apure_eqlV, eqlVal_str, eqlVal_bool, eqlVal_ptr, eqlVal_slice, eqlVal_wide, eqlVal_int, allT, ↓aop_eqlV, apure_neq, List.map_cons, List.map_nil, List.all_cons, List.all_nil, lit2, lit1, lit0, List.isEmpty_nil, bls, Bool.false_eq_true, if_true, if_false, List.length_map, beq_self_eq_true, uns, h2, h3, ld, ld2, callWAdd, hc, ha, st, exW0, exW1]
  exact ⟨_, rfl, by simp only [upd_at, Nat.reduceEqDiff, reduceIte], by simp only [upd_at, Nat.reduceEqDiff, reduceIte], fun j h1 h2 h3 => by repeat rw [upd_ne (by omega)]⟩
theorem lla_4 {m1 m2 : Mem} {b : Bool} (h3 : F 3 = .pointer (some ⟨p, 0, none⟩)) (h2 : F 2 = .pointer (some ⟨q, 0, none⟩)) (ld : aload E.P 24 (.pointer (some ⟨p, 0, none⟩)) m = some (wide w)) (ld2 : aload E.P 24 (.pointer (some ⟨q, 0, none⟩)) m = some (wide v)) (hc : ∀ M, ainv E self 9 [wide w, wide v] M = some (.tuple ⟨[wide o, .bool b]⟩, M)) (ha : aalloc E.P 24 m = some (.pointer (some ⟨s, 0, none⟩), m1)) (st : astore E.P 24 (.pointer (some ⟨s, 0, none⟩)) (wide o) m1 = some m2) :
    ∃ F', acodeN E self nf (.region 4 rlla_4 false) (lst F 116) m = some (.normal, lst F' 116, m2) ∧ F' 7 = .pointer (some ⟨s, 0, none⟩) ∧ F' 8 = .bool b ∧ ∀ j, j ≠ 7 → j ≠ 8 → j < 22 → F' j = F j := by
  simp only [olla_0, olla_1, olla_2, olla_3, olla_4, olla_5, olla_6, olla_7, olla_8, olla_9, olla_10, olla_11, olla_12, olla_13, olla_14, olla_15, glla_8_3, glla_8_8, glla_8_13, glla_8_18, glla_15_1, glla_15_4, glla_15_9, agd_none, gdAt, gdV_bool, gdV_undef, List.append_eq, List.cons_append, List.nil_append, apure_call1, apure_call2, apure_call3, bft, btf, acodeN, List.getElem?_toArray, List.getElem?_cons_zero, List.getElem?_cons_succ, aopsN, adrawT, cls, astep, aop, afloat, ev, nth_lst, get_lst, aput, setAt_lst, upd_at, init_zero, init_succ, init_nil, Nat.reduceLT, Nat.reduceEqDiff, reduceIte, abuiltin, alen, Option.map_some, Option.map_none, orElse_some, apure_add, apure_eqlV, eqlVal_str, eqlVal_bool, eqlVal_ptr, eqlVal_slice, eqlVal_wide, eqlVal_int, allT, ↓aop_eqlV, apure_neq, List.map_cons, List.map_nil, List.all_cons, List.all_nil, lit2, lit1, lit0, List.isEmpty_nil, bls, Bool.false_eq_true, if_true, if_false, List.length_map, beq_self_eq_true, uns, h3, h2, ld, ld2, callWAdd, hc, ha, st, exW0, exW1]
  exact ⟨_, rfl, by simp only [upd_at, Nat.reduceEqDiff, reduceIte], by simp only [upd_at, Nat.reduceEqDiff, reduceIte], fun j h1 h2 h3 => by repeat rw [upd_ne (by omega)]⟩
theorem lla_5 {m1 m2 : Mem} {b : Bool} (h2 : F 2 = .pointer (some ⟨p, 0, none⟩)) (h3 : F 3 = .pointer (some ⟨q, 0, none⟩)) (ld : aload E.P 24 (.pointer (some ⟨p, 0, none⟩)) m = some (wide w)) (ld2 : aload E.P 24 (.pointer (some ⟨q, 0, none⟩)) m = some (wide v)) (hc : ∀ M, ainv E self 17 [wide w, wide v] M = some (.tuple ⟨[wide o, .bool b]⟩, M)) (ha : aalloc E.P 24 m = some (.pointer (some ⟨s, 0, none⟩), m1)) (st : astore E.P 24 (.pointer (some ⟨s, 0, none⟩)) (wide o) m1 = some m2) :
    ∃ F', acodeN E self nf (.region 5 rlla_5 false) (lst F 116) m = some (.normal, lst F' 116, m2) ∧ F' 9 = .pointer (some ⟨s, 0, none⟩) ∧ F' 10 = .bool b ∧ ∀ j, j ≠ 9 → j ≠ 10 → j < 22 → F' j = F j := by
  simp only [olla_0, olla_1, olla_2, olla_3, olla_4, olla_5, olla_6, olla_7, olla_8, olla_9, olla_10, olla_11, olla_12, olla_13, olla_14, olla_15, glla_8_3, glla_8_8, glla_8_13, glla_8_18, glla_15_1, glla_15_4, glla_15_9, agd_none, gdAt, gdV_bool, gdV_undef, List.append_eq, List.cons_append, List.nil_append, apure_call1, apure_call2, apure_call3, bft, btf, acodeN, List.getElem?_toArray, List.getElem?_cons_zero, List.getElem?_cons_succ, aopsN, adrawT, cls, astep, aop, afloat, ev, nth_lst, get_lst, aput, setAt_lst, upd_at, init_zero, init_succ, init_nil, Nat.reduceLT, Nat.reduceEqDiff, reduceIte, abuiltin, alen, Option.map_some, Option.map_none, orElse_some, apure_add, apure_eqlV, eqlVal_str, eqlVal_bool, eqlVal_ptr, eqlVal_slice, eqlVal_wide, eqlVal_int, allT, ↓aop_eqlV, apure_neq, List.map_cons, List.map_nil, List.all_cons, List.all_nil, lit2, lit1, lit0, List.isEmpty_nil, bls, Bool.false_eq_true, if_true, if_false, List.length_map, beq_self_eq_true, uns, h2, h3, ld, ld2, callWMul, hc, ha, st, exW0, exW1]
  exact ⟨_, rfl, by simp only [upd_at, Nat.reduceEqDiff, reduceIte], by simp only [upd_at, Nat.reduceEqDiff, reduceIte], fun j h1 h2 h3 => by repeat rw [upd_ne (by omega)]⟩
theorem lla_6 {m1 m2 : Mem} {b : Bool} (h3 : F 3 = .pointer (some ⟨p, 0, none⟩)) (h2 : F 2 = .pointer (some ⟨q, 0, none⟩)) (ld : aload E.P 24 (.pointer (some ⟨p, 0, none⟩)) m = some (wide w)) (ld2 : aload E.P 24 (.pointer (some ⟨q, 0, none⟩)) m = some (wide v)) (hc : ∀ M, ainv E self 17 [wide w, wide v] M = some (.tuple ⟨[wide o, .bool b]⟩, M)) (ha : aalloc E.P 24 m = some (.pointer (some ⟨s, 0, none⟩), m1)) (st : astore E.P 24 (.pointer (some ⟨s, 0, none⟩)) (wide o) m1 = some m2) :
    ∃ F', acodeN E self nf (.region 6 rlla_6 false) (lst F 116) m = some (.normal, lst F' 116, m2) ∧ F' 11 = .pointer (some ⟨s, 0, none⟩) ∧ F' 12 = .bool b ∧ ∀ j, j ≠ 11 → j ≠ 12 → j < 22 → F' j = F j := by
  simp only [olla_0, olla_1, olla_2, olla_3, olla_4, olla_5, olla_6, olla_7, olla_8, olla_9, olla_10, olla_11, olla_12, olla_13, olla_14, olla_15, glla_8_3, glla_8_8, glla_8_13, glla_8_18, glla_15_1, glla_15_4, glla_15_9, agd_none, gdAt, gdV_bool, gdV_undef, List.append_eq, List.cons_append, List.nil_append, apure_call1, apure_call2, apure_call3, bft, btf, acodeN, List.getElem?_toArray, List.getElem?_cons_zero, List.getElem?_cons_succ, aopsN, adrawT, cls, astep, aop, afloat, ev, nth_lst, get_lst, aput, setAt_lst, upd_at, init_zero, init_succ, init_nil, Nat.reduceLT, Nat.reduceEqDiff, reduceIte, abuiltin, alen, Option.map_some, Option.map_none, orElse_some, apure_add, apure_eqlV, eqlVal_str, eqlVal_bool, eqlVal_ptr, eqlVal_slice, eqlVal_wide, eqlVal_int, allT, ↓aop_eqlV, apure_neq, List.map_cons, List.map_nil, List.all_cons, List.all_nil, lit2, lit1, lit0, List.isEmpty_nil, bls, Bool.false_eq_true, if_true, if_false, List.length_map, beq_self_eq_true, uns, h3, h2, ld, ld2, callWMul, hc, ha, st, exW0, exW1]
  exact ⟨_, rfl, by simp only [upd_at, Nat.reduceEqDiff, reduceIte], by simp only [upd_at, Nat.reduceEqDiff, reduceIte], fun j h1 h2 h3 => by repeat rw [upd_ne (by omega)]⟩
theorem lla_7 {m1 m2 : Mem} {b : Bool} (h5 : F 5 = .pointer (some ⟨p, 0, none⟩)) (h3 : F 3 = .pointer (some ⟨q, 0, none⟩)) (ld : aload E.P 24 (.pointer (some ⟨p, 0, none⟩)) m = some (wide w)) (ld2 : aload E.P 24 (.pointer (some ⟨q, 0, none⟩)) m = some (wide v)) (hc : ∀ M, ainv E self 13 [wide w, wide v] M = some (.tuple ⟨[wide o, .bool b]⟩, M)) (ha : aalloc E.P 24 m = some (.pointer (some ⟨s, 0, none⟩), m1)) (st : astore E.P 24 (.pointer (some ⟨s, 0, none⟩)) (wide o) m1 = some m2) :
    ∃ F', acodeN E self nf (.region 7 rlla_7 false) (lst F 116) m = some (.normal, lst F' 116, m2) ∧ F' 13 = .pointer (some ⟨s, 0, none⟩) ∧ F' 14 = .bool b ∧ ∀ j, j ≠ 13 → j ≠ 14 → j < 22 → F' j = F j := by
  simp only [olla_0, olla_1, olla_2, olla_3, olla_4, olla_5, olla_6, olla_7, olla_8, olla_9, olla_10, olla_11, olla_12, olla_13, olla_14, olla_15, glla_8_3, glla_8_8, glla_8_13, glla_8_18, glla_15_1, glla_15_4, glla_15_9, agd_none, gdAt, gdV_bool, gdV_undef, List.append_eq, List.cons_append, List.nil_append, apure_call1, apure_call2, apure_call3, bft, btf, acodeN, List.getElem?_toArray, List.getElem?_cons_zero, List.getElem?_cons_succ, aopsN, adrawT, cls, astep, aop, afloat, ev, nth_lst, get_lst, aput, setAt_lst, upd_at, init_zero, init_succ, init_nil, Nat.reduceLT, Nat.reduceEqDiff, reduceIte, abuiltin, alen, Option.map_some, Option.map_none, orElse_some, apure_add, apure_eqlV, eqlVal_str, eqlVal_bool, eqlVal_ptr, eqlVal_slice, eqlVal_wide, eqlVal_int, allT, ↓aop_eqlV, apure_neq, List.map_cons, List.map_nil, List.all_cons, List.all_nil, lit2, lit1, lit0, List.isEmpty_nil, bls, Bool.false_eq_true, if_true, if_false, List.length_map, beq_self_eq_true, uns, h5, h3, ld, ld2, callWSub, hc, ha, st, exW0, exW1]
  exact ⟨_, rfl, by simp only [upd_at, Nat.reduceEqDiff, reduceIte], by simp only [upd_at, Nat.reduceEqDiff, reduceIte], fun j h1 h2 h3 => by repeat rw [upd_ne (by omega)]⟩
theorem lla_13 {m1 m2 : Mem} {b : Bool} (h15 : F 15 = .pointer (some ⟨p, 0, none⟩)) (h3 : F 3 = .pointer (some ⟨q, 0, none⟩)) (ld : aload E.P 24 (.pointer (some ⟨p, 0, none⟩)) m = some (wide w)) (ld2 : aload E.P 24 (.pointer (some ⟨q, 0, none⟩)) m = some (wide v)) (hc : ∀ M, ainv E self 17 [wide w, wide v] M = some (.tuple ⟨[wide o, .bool b]⟩, M)) (ha : aalloc E.P 24 m = some (.pointer (some ⟨s, 0, none⟩), m1)) (st : astore E.P 24 (.pointer (some ⟨s, 0, none⟩)) (wide o) m1 = some m2) :
    ∃ F', acodeN E self nf (.region 13 rlla_13 false) (lst F 116) m = some (.normal, lst F' 116, m2) ∧ F' 18 = .pointer (some ⟨s, 0, none⟩) ∧ F' 19 = .bool b ∧ ∀ j, j ≠ 18 → j ≠ 19 → j < 22 → F' j = F j := by
  simp only [olla_0, olla_1, olla_2, olla_3, olla_4, olla_5, olla_6, olla_7, olla_8, olla_9, olla_10, olla_11, olla_12, olla_13, olla_14, olla_15, glla_8_3, glla_8_8, glla_8_13, glla_8_18, glla_15_1, glla_15_4, glla_15_9, agd_none, gdAt, gdV_bool, gdV_undef, List.append_eq, List.cons_append, List.nil_append, apure_call1, apure_call2, apure_call3, bft, btf, acodeN, List.getElem?_toArray, List.getElem?_cons_zero, List.getElem?_cons_succ, aopsN, adrawT, cls, astep, aop, afloat, ev, nth_lst, get_lst, aput, setAt_lst, upd_at, init_zero, init_succ, init_nil, Nat.reduceLT, Nat.reduceEqDiff, reduceIte, abuiltin, alen, Option.map_some, Option.map_none, orElse_some, apure_add, apure_eqlV, eqlVal_str, eqlVal_bool, eqlVal_ptr, eqlVal_slice, eqlVal_wide, eqlVal_int, allT, ↓aop_eqlV, apure_neq, List.map_cons, List.map_nil, List.all_cons, List.all_nil, lit2, lit1, lit0, List.isEmpty_nil, bls, Bool.false_eq_true, if_true, if_false, List.length_map, beq_self_eq_true, uns, h15, h3, ld, ld2, callWMul, hc, ha, st, exW0, exW1]
  exact ⟨_, rfl, by simp only [upd_at, Nat.reduceEqDiff, reduceIte], by simp only [upd_at, Nat.reduceEqDiff, reduceIte], fun j h1 h2 h3 => by repeat rw [upd_ne (by omega)]⟩
theorem lla_14 {m1 m2 : Mem} {b : Bool} (h18 : F 18 = .pointer (some ⟨p, 0, none⟩)) (h16 : F 16 = .pointer (some ⟨q, 0, none⟩)) (ld : aload E.P 24 (.pointer (some ⟨p, 0, none⟩)) m = some (wide w)) (ld2 : aload E.P 24 (.pointer (some ⟨q, 0, none⟩)) m = some (wide v)) (hc : ∀ M, ainv E self 9 [wide w, wide v] M = some (.tuple ⟨[wide o, .bool b]⟩, M)) (ha : aalloc E.P 24 m = some (.pointer (some ⟨s, 0, none⟩), m1)) (st : astore E.P 24 (.pointer (some ⟨s, 0, none⟩)) (wide o) m1 = some m2) :
    ∃ F', acodeN E self nf (.region 14 rlla_14 false) (lst F 116) m = some (.normal, lst F' 116, m2) ∧ F' 20 = .pointer (some ⟨s, 0, none⟩) ∧ F' 21 = .bool b ∧ ∀ j, j ≠ 20 → j ≠ 21 → j < 22 → F' j = F j := by
  simp only [olla_0, olla_1, olla_2, olla_3, olla_4, olla_5, olla_6, olla_7, olla_8, olla_9, olla_10, olla_11, olla_12, olla_13, olla_14, olla_15, glla_8_3, glla_8_8, glla_8_13, glla_8_18, glla_15_1, glla_15_4, glla_15_9, agd_none, gdAt, gdV_bool, gdV_undef, List.append_eq, List.cons_append, List.nil_append, apure_call1, apure_call2, apure_call3, bft, btf, acodeN, List.getElem?_toArray, List.getElem?_cons_zero, List.getElem?_cons_succ, aopsN, adrawT, cls, astep, aop, afloat, ev, nth_lst, get_lst, aput, setAt_lst, upd_at, init_zero, init_succ, init_nil, Nat.reduceLT, Nat.reduceEqDiff, reduceIte, abuiltin, alen, Option.map_some, Option.map_none, orElse_some, apure_add, apure_eqlV, eqlVal_str, eqlVal_bool, eqlVal_ptr, eqlVal_slice, eqlVal_wide, eqlVal_int, allT, ↓aop_eqlV, apure_neq, List.map_cons, List.map_nil, List.all_cons, List.all_nil, lit2, lit1, lit0, List.isEmpty_nil, bls, Bool.false_eq_true, if_true, if_false, List.length_map, beq_self_eq_true, uns, h18, h16, ld, ld2, callWAdd, hc, ha, st, exW0, exW1]
  exact ⟨_, rfl, by simp only [upd_at, Nat.reduceEqDiff, reduceIte], by simp only [upd_at, Nat.reduceEqDiff, reduceIte], fun j h1 h2 h3 => by repeat rw [upd_ne (by omega)]⟩
theorem lla_8 {s t p' q' bk a x z P : Nat} {b c : Bool} (hS : x < W8) (hP : P < W8) (hA : z < W8) (h5 : F 5 = .pointer (some ⟨s, 0, none⟩)) (h7 : F 7 = .pointer (some ⟨t, 0, none⟩)) (h6 : F 6 = .bool b) (h8 : F 8 = .bool b) (h9 : F 9 = .pointer (some ⟨p', 0, none⟩)) (h11 : F 11 = .pointer (some ⟨q', 0, none⟩)) (h10 : F 10 = .bool c) (h12 : F 12 = .bool c) (h13 : F 13 = .pointer (some ⟨bk, 0, none⟩)) (h2 : F 2 = .pointer (some ⟨a, 0, none⟩))
    (l1 : aload E.P 24 (.pointer (some ⟨s, 0, none⟩)) m = some (wd x)) (l2 : aload E.P 24 (.pointer (some ⟨t, 0, none⟩)) m = some (wd x)) (l3 : aload E.P 24 (.pointer (some ⟨p', 0, none⟩)) m = some (wd P)) (l4 : aload E.P 24 (.pointer (some ⟨q', 0, none⟩)) m = some (wd P)) (l5 : aload E.P 24 (.pointer (some ⟨bk, 0, none⟩)) m = some (wd z)) (l6 : aload E.P 24 (.pointer (some ⟨a, 0, none⟩)) m = some (wd z)) :
    ∃ F', acodeN E self nf (.region 8 rlla_8 false) (lst F 116) m = some (.normal, lst F' 116, m) ∧ F' 76 = .bool false ∧ ∀ j, j < 22 → F' j = F j := by
  have n1 : ∀ i j, neqI E.P 24 i j (wd x) (wd x) = some (.bool false) := fun i j => by show neqVal E.P _ _ _ _ _ = _; rw [neqWd hS hS]; simp
  have n2 : ∀ i j, neqI E.P 24 i j (wd P) (wd P) = some (.bool false) := fun i j => by show neqVal E.P _ _ _ _ _ = _; rw [neqWd hP hP]; simp
  have n3 : ∀ i j, neqI E.P 24 i j (wd z) (wd z) = some (.bool false) := fun i j => by show neqVal E.P _ _ _ _ _ = _; rw [neqWd hA hA]; simp
  have n4 : ∀ i j (d : Bool), neqI E.P 4 i j (.bool d) (.bool d) = some (.bool false) := fun i j d => by unfold neqI; simp only; rw [neqBo]; cases d <;> rfl
  generalize wd x = X at *
  generalize wd P = Y at *
  generalize wd z = Z at *
  simp only [olla_0, olla_1, olla_2, olla_3, olla_4, olla_5, olla_6, olla_7, olla_8, olla_9, olla_10, olla_11, olla_12, olla_13, olla_14, olla_15, glla_8_3, glla_8_8, glla_8_13, glla_8_18, glla_15_1, glla_15_4, glla_15_9, agd_none, gdAt, gdV_bool, gdV_undef, List.append_eq, List.cons_append, List.nil_append, apure_call1, apure_call2, apure_call3, bft, btf, acodeN, List.getElem?_toArray, List.getElem?_cons_zero, List.getElem?_cons_succ, aopsN, adrawT, cls, astep, aop, afloat, ev, nth_lst, get_lst, aput, setAt_lst, upd_at, init_zero, init_succ, init_nil, Nat.reduceLT, Nat.reduceEqDiff, reduceIte, abuiltin, alen, Option.map_some, Option.map_none, orElse_some, apure_add, apure_eqlV, eqlVal_str, eqlVal_bool, eqlVal_ptr, eqlVal_slice, eqlVal_wide, eqlVal_int, allT, ↓aop_eqlV, apure_neq, List.map_cons, List.map_nil, List.all_cons, List.all_nil, lit2, lit1, lit0, List.isEmpty_nil, bls, Bool.false_eq_true, if_true, if_false, List.length_map, beq_self_eq_true, uns, ↓aop_neqI, h2, h5, h6, h7, h8, h9, h10, h11, h12, h13, l1, l2, l3, l4, l5, l6, n1, n2, n3, n4]
  exact ⟨_, rfl, by simp only [upd_at, Nat.reduceEqDiff, reduceIte], fun j h1 => by repeat rw [upd_ne (by omega)]⟩
theorem lla_10 {m1 m2 m3 m4 : Mem} {l : Nat → Nat} {x y : Nat} {e : Int} (h2 : F 2 = .pointer (some ⟨p, 0, none⟩)) (h3 : F 3 = .pointer (some ⟨q, 0, none⟩)) (ld : aload E.P 24 (.pointer (some ⟨p, 0, none⟩)) m = some (wide w)) (ld2 : aload E.P 24 (.pointer (some ⟨q, 0, none⟩)) m = some (wide v)) (hc : ∀ M, ainv E self 21 [wide w, wide v] M = some (.tuple ⟨[wide o, wide l, .int .i64 e]⟩, M)) (ha : aalloc E.P 24 m = some (.pointer (some ⟨x, 0, none⟩), m1)) (ha2 : aalloc E.P 24 m1 = some (.pointer (some ⟨y, 0, none⟩), m2)) (st : astore E.P 24 (.pointer (some ⟨x, 0, none⟩)) (wide o) m2 = some m3) (st2 : astore E.P 24 (.pointer (some ⟨y, 0, none⟩)) (wide l) m3 = some m4) :
    ∃ F', acodeN E self nf (.region 10 rlla_10 false) (lst F 116) m = some (.normal, lst F' 116, m4) ∧ F' 15 = .pointer (some ⟨x, 0, none⟩) ∧ F' 16 = .pointer (some ⟨y, 0, none⟩) ∧ F' 17 = .int .i64 e ∧ ∀ j, j < 15 → F' j = F j := by
  simp only [olla_0, olla_1, olla_2, olla_3, olla_4, olla_5, olla_6, olla_7, olla_8, olla_9, olla_10, olla_11, olla_12, olla_13, olla_14, olla_15, glla_8_3, glla_8_8, glla_8_13, glla_8_18, glla_15_1, glla_15_4, glla_15_9, agd_none, gdAt, gdV_bool, gdV_undef, List.append_eq, List.cons_append, List.nil_append, apure_call1, apure_call2, apure_call3, bft, btf, acodeN, List.getElem?_toArray, List.getElem?_cons_zero, List.getElem?_cons_succ, aopsN, adrawT, cls, astep, aop, afloat, ev, nth_lst, get_lst, aput, setAt_lst, upd_at, init_zero, init_succ, init_nil, Nat.reduceLT, Nat.reduceEqDiff, reduceIte, abuiltin, alen, Option.map_some, Option.map_none, orElse_some, apure_add, apure_eqlV, eqlVal_str, eqlVal_bool, eqlVal_ptr, eqlVal_slice, eqlVal_wide, eqlVal_int, allT, ↓aop_eqlV, apure_neq, List.map_cons, List.map_nil, List.all_cons, List.all_nil, lit2, lit1, lit0, List.isEmpty_nil, bls, Bool.false_eq_true, if_true, if_false, List.length_map, beq_self_eq_true, uns, h2, h3, ld, ld2, callWDiv, hc, ha, ha2, st, st2, exT0, exT1, exT2]
  exact ⟨_, rfl, by simp only [upd_at, Nat.reduceEqDiff, reduceIte], by simp only [upd_at, Nat.reduceEqDiff, reduceIte], by simp only [upd_at, Nat.reduceEqDiff, reduceIte], fun j h1 => by repeat rw [upd_ne (by omega)]⟩
theorem lla_11 {e : Int} {b : Bool} (h17 : F 17 = .int .i64 e) (hb : (e != 0) = b) : ∃ F', acodeN E self nf (.region 11 rlla_11 false) (lst F 116) m = some (.normal, lst F' 116, m) ∧ F' 85 = .bool b ∧ ∀ j, j < 22 → F' j = F j := by
  simp only [olla_0, olla_1, olla_2, olla_3, olla_4, olla_5, olla_6, olla_7, olla_8, olla_9, olla_10, olla_11, olla_12, olla_13, olla_14, olla_15, glla_8_3, glla_8_8, glla_8_13, glla_8_18, glla_15_1, glla_15_4, glla_15_9, agd_none, gdAt, gdV_bool, gdV_undef, List.append_eq, List.cons_append, List.nil_append, apure_call1, apure_call2, apure_call3, bft, btf, acodeN, List.getElem?_toArray, List.getElem?_cons_zero, List.getElem?_cons_succ, aopsN, adrawT, cls, astep, aop, afloat, ev, nth_lst, get_lst, aput, setAt_lst, upd_at, init_zero, init_succ, init_nil, Nat.reduceLT, Nat.reduceEqDiff, reduceIte, abuiltin, alen, Option.map_some, Option.map_none, orElse_some, apure_add, apure_eqlV, eqlVal_str, eqlVal_bool, eqlVal_ptr, eqlVal_slice, eqlVal_wide, eqlVal_int, allT, ↓aop_eqlV, apure_neq, List.map_cons, List.map_nil, List.all_cons, List.all_nil, lit2, lit1, lit0, List.isEmpty_nil, bls, Bool.false_eq_true, if_true, if_false, List.length_map, beq_self_eq_true, uns, h17, neq64, hb]
  exact ⟨_, rfl, by simp only [upd_at, Nat.reduceEqDiff, reduceIte], fun j h1 => by repeat rw [upd_ne (by omega)]⟩
theorem lla_12 {b : Bool} (h3 : F 3 = .pointer (some ⟨q, 0, none⟩)) (ld : aload E.P 24 (.pointer (some ⟨q, 0, none⟩)) m = some (wide v)) (hb : ∀ i j, eqlVal E.P 24 i j (wide v) (wide fun _ => 0) = some (.bool b)) : ∃ F', acodeN E self nf (.region 12 rlla_12 false) (lst F 116) m = some (.normal, lst F' 116, m) ∧ F' 4 = .bool b := by
  simp only [olla_0, olla_1, olla_2, olla_3, olla_4, olla_5, olla_6, olla_7, olla_8, olla_9, olla_10, olla_11, olla_12, olla_13, olla_14, olla_15, glla_8_3, glla_8_8, glla_8_13, glla_8_18, glla_15_1, glla_15_4, glla_15_9, agd_none, gdAt, gdV_bool, gdV_undef, List.append_eq, List.cons_append, List.nil_append, apure_call1, apure_call2, apure_call3, bft, btf, acodeN, List.getElem?_toArray, List.getElem?_cons_zero, List.getElem?_cons_succ, aopsN, adrawT, cls, astep, aop, afloat, ev, nth_lst, get_lst, aput, setAt_lst, upd_at, init_zero, init_succ, init_nil, Nat.reduceLT, Nat.reduceEqDiff, reduceIte, abuiltin, alen, Option.map_some, Option.map_none, orElse_some, apure_add, apure_eqlV, eqlVal_str, eqlVal_bool, eqlVal_ptr, eqlVal_slice, eqlVal_wide, eqlVal_int, allT, ↓aop_eqlV, apure_neq, List.map_cons, List.map_nil, List.all_cons, List.all_nil, lit2, lit1, lit0, List.isEmpty_nil, bls, Bool.false_eq_true, if_true, if_false, List.length_map, beq_self_eq_true, uns, h3, ld, apure24, abuild24, hb]
  exact ⟨_, rfl, by simp only [upd_at, Nat.reduceEqDiff, reduceIte]⟩
theorem lla_15 {n' a lf b' x z y : Nat} {c : Int} (hx : x < W8) (h19 : F 19 = .bool true) (h21 : F 21 = .bool true) (h20 : F 20 = .pointer (some ⟨n', 0, none⟩)) (h2 : F 2 = .pointer (some ⟨a, 0, none⟩)) (h16 : F 16 = .pointer (some ⟨lf, 0, none⟩)) (h3 : F 3 = .pointer (some ⟨b', 0, none⟩))
    (l1 : aload E.P 24 (.pointer (some ⟨n', 0, none⟩)) m = some (wd x)) (l2 : aload E.P 24 (.pointer (some ⟨a, 0, none⟩)) m = some (wd x)) (l3 : aload E.P 24 (.pointer (some ⟨lf, 0, none⟩)) m = some (wd z)) (l4 : aload E.P 24 (.pointer (some ⟨b', 0, none⟩)) m = some (wd y)) (hc : ∀ M, ainv E self 18 [wd z, wd y] M = some (.int .i64 c, M)) (hb : decide (c < 0) = true) :
    ∃ F', acodeN E self nf (.region 15 rlla_15 false) (lst F 116) m = some (.normal, lst F' 116, m) ∧ F' 4 = .bool true := by
  have n1 : ∀ i j, eqlVal E.P 24 i j (wd x) (wd x) = some (.bool true) := fun i j => by rw [eqlWd hx hx]; simp
  generalize wd x = X at *
  generalize hZ : wd z = Z at *
  generalize hY : wd y = Y at *
  simp only [olla_0, olla_1, olla_2, olla_3, olla_4, olla_5, olla_6, olla_7, olla_8, olla_9, olla_10, olla_11, olla_12, olla_13, olla_14, olla_15, glla_8_3, glla_8_8, glla_8_13, glla_8_18, glla_15_1, glla_15_4, glla_15_9, agd_none, gdAt, gdV_bool, gdV_undef, List.append_eq, List.cons_append, List.nil_append, apure_call1, apure_call2, apure_call3, bft, btf, acodeN, List.getElem?_toArray, List.getElem?_cons_zero, List.getElem?_cons_succ, aopsN, adrawT, cls, astep, aop, afloat, ev, nth_lst, get_lst, aput, setAt_lst, upd_at, init_zero, init_succ, init_nil, Nat.reduceLT, Nat.reduceEqDiff, reduceIte, abuiltin, alen, Option.map_some, Option.map_none, orElse_some, apure_add, apure_eqlV, eqlVal_str, eqlVal_bool, eqlVal_ptr, eqlVal_slice, eqlVal_wide, eqlVal_int, allT, ↓aop_eqlV, apure_neq, List.map_cons, List.map_nil, List.all_cons, List.all_nil, lit2, lit1, lit0, List.isEmpty_nil, bls, Bool.false_eq_true, if_true, if_false, List.length_map, beq_self_eq_true, uns, h2, h3, h16, h19, h20, h21, l1, l2, l3, l4, n1, callCmp, hc, lss64, hb]
  exact ⟨_, rfl, by simp only [upd_at, Nat.reduceEqDiff, reduceIte]⟩
end
end Go.Am.Seat
namespace Go.Am.Seat
open Go.Proofs Go.Am Go.Am.Num Go.Am.Kn
theorem back_num {x y W : Nat} (hx : x < W) (hy : y < W) : ((x + y) % W + (W - y)) % W = x := by
  rw [Nat.mod_add_mod, show x + y + (W - y) = x + W by omega, Nat.add_mod_right, Nat.mod_eq_of_lt hx]
structure LaAll (slf : Self) : Prop where
  ad : CAddW slf
  sb : CSubW slf
  mu : CMulW slf
  dv : CDivW slf
  cm : CCmpW slf
  aw : ∀ X, ainv E slf 7 [] (mem1 ++ X) = some (.bool true, mem1 ++ X)
section
variable {self : Self} {nf : Nat} {x y : Nat}
theorem lla_front (rl : LaAll self) (hx : x < W8) (hy : y < W8) : ∃ (A0 A1 A3 A4 A5 A6 A7 A8 : Nat → Value) (M2 M3 M4 M5 M6 M7 : Mem),
    acodeN E self nf (.region 0 rlla_0 false) (lst (init [wd x, wd y]) 116) mem1 = some (.normal, lst A0 116, M2) ∧ acodeN E self nf (.region 1 rlla_1 false) (lst A0 116) M2 = some (.normal, lst A1 116, M2) ∧ A1 23 = .bool false ∧
    acodeN E self nf (.region 3 rlla_3 false) (lst A1 116) M2 = some (.normal, lst A3 116, M3) ∧ acodeN E self nf (.region 4 rlla_4 false) (lst A3 116) M3 = some (.normal, lst A4 116, M4) ∧ acodeN E self nf (.region 5 rlla_5 false) (lst A4 116) M4 = some (.normal, lst A5 116, M5) ∧ acodeN E self nf (.region 6 rlla_6 false) (lst A5 116) M5 = some (.normal, lst A6 116, M6) ∧ acodeN E self nf (.region 7 rlla_7 false) (lst A6 116) M6 = some (.normal, lst A7 116, M7) ∧ acodeN E self nf (.region 8 rlla_8 false) (lst A7 116) M7 = some (.normal, lst A8 116, M7) ∧ A8 76 = .bool false ∧
    A8 2 = .pointer (some ⟨mem1.length, 0, none⟩) ∧ A8 3 = .pointer (some ⟨mem1.length + 1, 0, none⟩) ∧ M7.length = mem1.length + 7 ∧ M7[mem1.length]? = some (.row false 24 (rowOf (wN x))) ∧ M7[mem1.length + 1]? = some (.row false 24 (rowOf (wN y))) := by
  obtain ⟨n, hn⟩ : ∃ n, n = mem1.length := ⟨_, rfl⟩
  rw [← hn]
  have b1 := box24 (wN x) mem1
  have b2 := box24 (wN y) (mem1 ++ [Blk.row false 24 (rowOf (wN x))])
  rw [← hn] at b1
  rw [List.length_append, List.length_singleton, ← hn] at b2
  obtain ⟨M2, hM2⟩ : ∃ M, M = mem1 ++ [Blk.row false 24 (rowOf (wN x))] ++ [Blk.row false 24 (rowOf (wN y))] := ⟨_, rfl⟩
  rw [← hM2] at b2
  have l2 : M2.length = n + 2 := by rw [hM2, hn]; simp
  have p2 : M2[n]? = some (.row false 24 (rowOf (wN x))) := by rw [hM2, List.getElem?_append_left (by simp [hn]), List.getElem?_append_right (by omega)]; simp [hn]
  have q2 : M2[n + 1]? = some (.row false 24 (rowOf (wN y))) := by rw [hM2, List.getElem?_append_right (by simp [hn])]; simp [hn]
  have hA : ainv E self 7 [] M2 = some (.bool true, M2) := by rw [hM2, List.append_assoc]; exact rl.aw _
  clear hM2 hn
  obtain ⟨A0, r0, a2, a3⟩ := lla_0 (self := self) (nf := nf) (F := init [wd x, wd y]) b1 b2 rfl rfl
  obtain ⟨A1, r1, c23, k1⟩ := lla_1 (self := self) (nf := nf) (F := A0) hA
  have s1_2 : A1 2 = .pointer (some ⟨n, 0, none⟩) := (k1 2 (by omega)).trans a2
  have s1_3 : A1 3 = .pointer (some ⟨n + 1, 0, none⟩) := (k1 3 (by omega)).trans a3
  have c3 := rl.ad x y hx hy
  obtain ⟨e3, M3, ha3, st3, s3, low3, l3⟩ := one_more l2 (wN ((x + y) % W8))
  obtain ⟨A3, r3, w3_5, w3_6, k3⟩ := lla_3 (self := self) (nf := nf) (F := A1) s1_2 s1_3 (load24 p2) (load24 q2) c3 ha3 st3
  have p3 := (low3 (n) (by omega)).trans p2
  have q3 := (low3 (n + 1) (by omega)).trans q2
  have s3_2 : A3 2 = .pointer (some ⟨n, 0, none⟩) := (k3 2 (by omega) (by omega) (by omega)).trans s1_2
  have s3_3 : A3 3 = .pointer (some ⟨n + 1, 0, none⟩) := (k3 3 (by omega) (by omega) (by omega)).trans s1_3
  have s3_5 : A3 5 = .pointer (some ⟨n + 2, 0, none⟩) := w3_5
  have s3_6 : A3 6 = .bool (decide (x + y < W8)) := w3_6
  have c4 := rl.ad y x hy hx
  rw [Nat.add_comm y x] at c4
  obtain ⟨e4, M4, ha4, st4, t4, low4, l4⟩ := one_more l3 (wN ((x + y) % W8))
  obtain ⟨A4, r4, w4_7, w4_8, k4⟩ := lla_4 (self := self) (nf := nf) (F := A3) s3_3 s3_2 (load24 q3) (load24 p3) c4 ha4 st4
  have p4 := (low4 (n) (by omega)).trans p3
  have q4 := (low4 (n + 1) (by omega)).trans q3
  have s4 := (low4 (n + 2) (by omega)).trans s3
  have s4_2 : A4 2 = .pointer (some ⟨n, 0, none⟩) := (k4 2 (by omega) (by omega) (by omega)).trans s3_2
  have s4_3 : A4 3 = .pointer (some ⟨n + 1, 0, none⟩) := (k4 3 (by omega) (by omega) (by omega)).trans s3_3
  have s4_5 : A4 5 = .pointer (some ⟨n + 2, 0, none⟩) := (k4 5 (by omega) (by omega) (by omega)).trans s3_5
  have s4_6 : A4 6 = .bool (decide (x + y < W8)) := (k4 6 (by omega) (by omega) (by omega)).trans s3_6
  have s4_7 : A4 7 = .pointer (some ⟨n + 3, 0, none⟩) := w4_7
  have s4_8 : A4 8 = .bool (decide (x + y < W8)) := w4_8
  have c5 := rl.mu x y hx hy
  obtain ⟨e5, M5, ha5, st5, u5, low5, l5⟩ := one_more l4 (wN (x * y % W8))
  obtain ⟨A5, r5, w5_9, w5_10, k5⟩ := lla_5 (self := self) (nf := nf) (F := A4) s4_2 s4_3 (load24 p4) (load24 q4) c5 ha5 st5
  have p5 := (low5 (n) (by omega)).trans p4
  have q5 := (low5 (n + 1) (by omega)).trans q4
  have s5 := (low5 (n + 2) (by omega)).trans s4
  have t5 := (low5 (n + 3) (by omega)).trans t4
  have s5_2 : A5 2 = .pointer (some ⟨n, 0, none⟩) := (k5 2 (by omega) (by omega) (by omega)).trans s4_2
  have s5_3 : A5 3 = .pointer (some ⟨n + 1, 0, none⟩) := (k5 3 (by omega) (by omega) (by omega)).trans s4_3
  have s5_5 : A5 5 = .pointer (some ⟨n + 2, 0, none⟩) := (k5 5 (by omega) (by omega) (by omega)).trans s4_5
  have s5_6 : A5 6 = .bool (decide (x + y < W8)) := (k5 6 (by omega) (by omega) (by omega)).trans s4_6
  have s5_7 : A5 7 = .pointer (some ⟨n + 3, 0, none⟩) := (k5 7 (by omega) (by omega) (by omega)).trans s4_7
  have s5_8 : A5 8 = .bool (decide (x + y < W8)) := (k5 8 (by omega) (by omega) (by omega)).trans s4_8
  have s5_9 : A5 9 = .pointer (some ⟨n + 4, 0, none⟩) := w5_9
  have s5_10 : A5 10 = .bool (decide (x * y < W8)) := w5_10
  have c6 := rl.mu y x hy hx
  rw [Nat.mul_comm y x] at c6
  obtain ⟨e6, M6, ha6, st6, v6, low6, l6⟩ := one_more l5 (wN (x * y % W8))
  obtain ⟨A6, r6, w6_11, w6_12, k6⟩ := lla_6 (self := self) (nf := nf) (F := A5) s5_3 s5_2 (load24 q5) (load24 p5) c6 ha6 st6
  have p6 := (low6 (n) (by omega)).trans p5
  have q6 := (low6 (n + 1) (by omega)).trans q5
  have s6 := (low6 (n + 2) (by omega)).trans s5
  have t6 := (low6 (n + 3) (by omega)).trans t5
  have u6 := (low6 (n + 4) (by omega)).trans u5
  have s6_2 : A6 2 = .pointer (some ⟨n, 0, none⟩) := (k6 2 (by omega) (by omega) (by omega)).trans s5_2
  have s6_3 : A6 3 = .pointer (some ⟨n + 1, 0, none⟩) := (k6 3 (by omega) (by omega) (by omega)).trans s5_3
  have s6_5 : A6 5 = .pointer (some ⟨n + 2, 0, none⟩) := (k6 5 (by omega) (by omega) (by omega)).trans s5_5
  have s6_6 : A6 6 = .bool (decide (x + y < W8)) := (k6 6 (by omega) (by omega) (by omega)).trans s5_6
  have s6_7 : A6 7 = .pointer (some ⟨n + 3, 0, none⟩) := (k6 7 (by omega) (by omega) (by omega)).trans s5_7
  have s6_8 : A6 8 = .bool (decide (x + y < W8)) := (k6 8 (by omega) (by omega) (by omega)).trans s5_8
  have s6_9 : A6 9 = .pointer (some ⟨n + 4, 0, none⟩) := (k6 9 (by omega) (by omega) (by omega)).trans s5_9
  have s6_10 : A6 10 = .bool (decide (x * y < W8)) := (k6 10 (by omega) (by omega) (by omega)).trans s5_10
  have s6_11 : A6 11 = .pointer (some ⟨n + 5, 0, none⟩) := w6_11
  have s6_12 : A6 12 = .bool (decide (x * y < W8)) := w6_12
  have c7 := rl.sb ((x + y) % W8) y (Nat.mod_lt _ W8_pos) hy
  rw [back_num hx hy] at c7
  obtain ⟨e7, M7, ha7, st7, w7, low7, l7⟩ := one_more l6 (wN (x))
  obtain ⟨A7, r7, w7_13, w7_14, k7⟩ := lla_7 (self := self) (nf := nf) (F := A6) s6_5 s6_3 (load24 s6) (load24 q6) c7 ha7 st7
  have p7 := (low7 (n) (by omega)).trans p6
  have q7 := (low7 (n + 1) (by omega)).trans q6
  have s7 := (low7 (n + 2) (by omega)).trans s6
  have t7 := (low7 (n + 3) (by omega)).trans t6
  have u7 := (low7 (n + 4) (by omega)).trans u6
  have v7 := (low7 (n + 5) (by omega)).trans v6
  have s7_2 : A7 2 = .pointer (some ⟨n, 0, none⟩) := (k7 2 (by omega) (by omega) (by omega)).trans s6_2
  have s7_3 : A7 3 = .pointer (some ⟨n + 1, 0, none⟩) := (k7 3 (by omega) (by omega) (by omega)).trans s6_3
  have s7_5 : A7 5 = .pointer (some ⟨n + 2, 0, none⟩) := (k7 5 (by omega) (by omega) (by omega)).trans s6_5
  have s7_6 : A7 6 = .bool (decide (x + y < W8)) := (k7 6 (by omega) (by omega) (by omega)).trans s6_6
  have s7_7 : A7 7 = .pointer (some ⟨n + 3, 0, none⟩) := (k7 7 (by omega) (by omega) (by omega)).trans s6_7
  have s7_8 : A7 8 = .bool (decide (x + y < W8)) := (k7 8 (by omega) (by omega) (by omega)).trans s6_8
  have s7_9 : A7 9 = .pointer (some ⟨n + 4, 0, none⟩) := (k7 9 (by omega) (by omega) (by omega)).trans s6_9
  have s7_10 : A7 10 = .bool (decide (x * y < W8)) := (k7 10 (by omega) (by omega) (by omega)).trans s6_10
  have s7_11 : A7 11 = .pointer (some ⟨n + 5, 0, none⟩) := (k7 11 (by omega) (by omega) (by omega)).trans s6_11
  have s7_12 : A7 12 = .bool (decide (x * y < W8)) := (k7 12 (by omega) (by omega) (by omega)).trans s6_12
  have s7_13 : A7 13 = .pointer (some ⟨n + 6, 0, none⟩) := w7_13
  have s7_14 : A7 14 = .bool (decide (y ≤ (x + y) % W8)) := w7_14
  obtain ⟨A8, r8, s8_76, k8⟩ := lla_8 (self := self) (nf := nf) (m := M7) (F := A7) (Nat.mod_lt _ W8_pos) (Nat.mod_lt _ W8_pos) hx s7_5 s7_7 s7_6 s7_8 s7_9 s7_11 s7_10 s7_12 s7_13 s7_2 (load24 s7) (load24 t7) (load24 u7) (load24 v7) (load24 w7) (load24 p7)
  exact ⟨A0, A1, A3, A4, A5, A6, A7, A8, M2, M3, M4, M5, M6, M7, r0, r1, c23, r3, r4, r5, r6, r7, r8, s8_76, (k8 2 (by omega)).trans s7_2, (k8 3 (by omega)).trans s7_3, l7, p7, q7⟩
theorem lla_body (rl : LaAll self) (hx : x < W8) (hy : y < W8) : ∃ m', abody E self nf 5 [wd x, wd y] mem1 = some (.bool true, m') := by
  rw [abody_eqF (by kernel_rfl) Tryd.func5 bodylla (by kernel_rfl) (Nat.le_of_ble_eq_true rfl)]
  rw [show Tryd.f5.ntmps = 116 from rfl]
  obtain ⟨A0, A1, A3, A4, A5, A6, A7, A8, M2, M3, M4, M5, M6, M7, r0, r1, c23, r3, r4, r5, r6, r7, r8, c76, s2, s3, l7, p7, q7⟩ := lla_front (self := self) (nf := nf) rl hx hy
  have hd := rl.dv x y hx hy
  by_cases h0 : y = 0
  · rw [if_pos h0] at hd
    obtain ⟨e1, e2, e3, M8, ha, ha2, st, st2, o8, f8, low8, l8⟩ := two_more (m := M7) l7 (wN 0) (wN 0)
    obtain ⟨B, r10, b15, b16, b17, bk⟩ := lla_10 (self := self) (nf := nf) (F := A8) s2 s3 (load24 p7) (load24 q7) hd ha ha2 st st2
    obtain ⟨C, r11, c85, ck⟩ := lla_11 (self := self) (nf := nf) (m := M8) (F := B) b17 (b := true) rfl
    have q8 := (low8 (mem1.length + 1) (by omega)).trans q7
    obtain ⟨D, r12, d4⟩ := lla_12 (self := self) (nf := nf) (F := C) ((ck 3 (by omega)).trans ((bk 3 (by omega)).trans s3)) (load24 q8) (b := true) fun i j => by rw [eqlWd0 hy, decide_eq_true h0]
    refine ⟨M8, ?_⟩
    clear rl hd ha ha2 st st2
    generalize wd x = X at *
    generalize wd y = Y at *
    generalize Code.region 0 rlla_0 false = C0 at *
    generalize Code.region 1 rlla_1 false = C1 at *
    generalize Code.region 3 rlla_3 false = C3 at *
    generalize Code.region 4 rlla_4 false = C4 at *
    generalize Code.region 5 rlla_5 false = C5 at *
    generalize Code.region 6 rlla_6 false = C6 at *
    generalize Code.region 7 rlla_7 false = C7 at *
    generalize Code.region 8 rlla_8 false = C8 at *
    generalize Code.region 10 rlla_10 false = C10 at *
    generalize Code.region 11 rlla_11 false = C11 at *
    generalize Code.region 12 rlla_12 false = C12 at *
    simp only [acodeN, r0, r1, r3, r4, r5, r6, r7, r8, r10, r11, r12, ev, nth_lst, Nat.reduceLT, if_true, c23, c76, c85, finish, ares, aresL, ares1, Tryd.f5, d4, Option.map_some]
  · rw [if_neg h0] at hd
    obtain ⟨e1, e2, e3, M8, ha, ha2, st, st2, o8, f8, low8, l8⟩ := two_more (m := M7) l7 (wN (x / y)) (wN (x % y))
    obtain ⟨B, r10, b15, b16, b17, bk⟩ := lla_10 (self := self) (nf := nf) (F := A8) s2 s3 (load24 p7) (load24 q7) hd ha ha2 st st2
    obtain ⟨C, r11, c85, ck⟩ := lla_11 (self := self) (nf := nf) (m := M8) (F := B) b17 (b := false) rfl
    have p8 := (low8 mem1.length (by omega)).trans p7
    have q8 := (low8 (mem1.length + 1) (by omega)).trans q7
    have hq : x / y < W8 := Nat.lt_of_le_of_lt (Nat.div_le_self x y) hx
    have hr : x % y < W8 := Nat.lt_of_le_of_lt (Nat.mod_le x y) hx
    have hm := rl.mu (x / y) y hq hy
    have e4 := Nat.div_add_mod x y
    rw [Nat.mul_comm y] at e4
    have hle : x / y * y < W8 := by omega
    rw [Nat.mod_eq_of_lt hle, decide_eq_true hle] at hm
    obtain ⟨e5, M9, ha3, st3, g9, low9, l9⟩ := one_more l8 (wN (x / y * y))
    obtain ⟨D, r13, d18, d19, dk⟩ := lla_13 (self := self) (nf := nf) (F := C) ((ck 15 (by omega)).trans b15) ((ck 3 (by omega)).trans ((bk 3 (by omega)).trans s3)) (load24 o8) (load24 q8) hm ha3 st3
    have hs := rl.ad (x / y * y) (x % y) hle hr
    rw [e4, Nat.mod_eq_of_lt hx, decide_eq_true hx] at hs
    have f9 := (low9 (mem1.length + 7 + 1) (by omega)).trans f8
    have p9 := (low9 mem1.length (by omega)).trans p8
    have q9 := (low9 (mem1.length + 1) (by omega)).trans q8
    obtain ⟨e6, M10, ha4, st4, g10, low10, l10⟩ := one_more l9 (wN x)
    have d16 := (dk 16 (by omega) (by omega) (by omega)).trans ((ck 16 (by omega)).trans b16)
    obtain ⟨G, r14, g20, g21, gk⟩ := lla_14 (self := self) (nf := nf) (F := D) d18 d16 (load24 g9) (load24 f9) hs ha4 st4
    have f10 := (low10 (mem1.length + 7 + 1) (by omega)).trans f9
    have p10 := (low10 mem1.length (by omega)).trans p9
    have q10 := (low10 (mem1.length + 1) (by omega)).trans q9
    have hlt : x % y < y := Nat.mod_lt x (Nat.pos_of_ne_zero h0)
    have hcm := rl.cm (x % y) y hr hy
    have hcv : cmpV (x % y) y = -1 := by unfold cmpV; rw [if_pos hlt]
    rw [hcv] at hcm
    have kg : ∀ j, j < 15 → G j = A8 j := fun j hj => (gk j (by omega) (by omega) (by omega)).trans ((dk j (by omega) (by omega) (by omega)).trans ((ck j (by omega)).trans (bk j hj)))
    obtain ⟨H, r15, h4⟩ := lla_15 (self := self) (nf := nf) (F := G) hx ((gk 19 (by omega) (by omega) (by omega)).trans d19) g21 g20 ((kg 2 (by omega)).trans s2) ((gk 16 (by omega) (by omega) (by omega)).trans d16) ((kg 3 (by omega)).trans s3) (load24 g10) (load24 p10) (load24 f10) (load24 q10) hcm (by decide)
    refine ⟨M10, ?_⟩
    clear rl hd ha ha2 st st2 hm hs hcm ha3 ha4 st3 st4
    generalize wd x = X at *
    generalize wd y = Y at *
    generalize Code.region 0 rlla_0 false = C0 at *
    generalize Code.region 1 rlla_1 false = C1 at *
    generalize Code.region 3 rlla_3 false = C3 at *
    generalize Code.region 4 rlla_4 false = C4 at *
    generalize Code.region 5 rlla_5 false = C5 at *
    generalize Code.region 6 rlla_6 false = C6 at *
    generalize Code.region 7 rlla_7 false = C7 at *
    generalize Code.region 8 rlla_8 false = C8 at *
    generalize Code.region 10 rlla_10 false = C10 at *
    generalize Code.region 11 rlla_11 false = C11 at *
    generalize Code.region 13 rlla_13 false = C13 at *
    generalize Code.region 14 rlla_14 false = C14 at *
    generalize Code.region 15 rlla_15 false = C15 at *
    simp only [acodeN, r0, r1, r3, r4, r5, r6, r7, r8, r10, r11, r13, r14, r15, ev, nth_lst, Nat.reduceLT, if_true, c23, c76, c85, finish, ares, aresL, ares1, Tryd.f5, h4, Option.map_some]
end
noncomputable abbrev RL : Nat → Self := fun n => runK E mem1 K1 n
theorem hRL : Runs RL K1 := runsK mem1 K1
theorem noL1 : NoL K1 := by
  have h : (limbFs.all fun f => !hasF K1 f) = true := by kernel_rfl
  intro f hf
  have := List.all_eq_true.1 h f hf
  simpa using this
theorem laAll : LaAll (runK E mem1 K1 2000) where
  ad := kAdd (R := RL) hRL noL1 (by omega)
  sb := kSub (R := RL) hRL noL1 (by omega)
  mu := kMul (R := RL) hRL noL1 (by omega)
  dv := kDiv (R := RL) hRL noL1 (by omega)
  cm := kCmp (R := RL) hRL noL1 (by omega)
  aw := awake1_call
theorem lawLL (w v : Nat → Nat) (hw : ∀ j, w j < 18446744073709551616) (hv : ∀ j, v j < 18446744073709551616) : ∃ m', runK E mem1 K1 2001 5 [wide w, wide v] mem1 = some (.bool true, m') := by
  rw [runK_other (rfl : hasF K1 5 = false), wide_num hw, wide_num hv]
  exact lla_body laAll (vN_lt hw 8) (vN_lt hv 8)
end Go.Am.Seat
namespace Go.Am.Seat
open Go.Proofs Go.Am
theorem wf_u64 {n : Int} (h : (Lit.int .u64 n).wf = true) : 0 ≤ n ∧ n < 18446744073709551616 := by
  unfold Lit.wf at h
  simp only [Bool.and_eq_true, decide_eq_true_eq] at h
  have h1 : IntKind.u64.min = 0 := by decide
  have h2 : IntKind.u64.max = 18446744073709551615 := by decide
  rw [h1, h2] at h
  omega
def fnOf (l : List Int) (j : Nat) : Nat := (l.getD j 0).toNat
theorem fnOf_lt {l : List Int} (h : ∀ n, n ∈ l → (Lit.int .u64 n).wf = true) (j : Nat) : fnOf l j < 18446744073709551616 := by
  unfold fnOf
  rw [List.getD_eq_getElem?_getD]
  cases hg : l[j]? with
  | none => decide
  | some n =>
    have := wf_u64 (h n (List.mem_of_getElem? hg))
    show n.toNat < _
    omega
theorem words_wide {l : List Int} (hl : l.length = 8) (h : ∀ n, n ∈ l → (Lit.int .u64 n).wf = true) : Value.agg ⟨l.map (Value.int .u64)⟩ = wide (fnOf l) := by
  unfold wide
  congr 2
  apply List.ext_getElem?
  intro j
  by_cases hj : j < 8
  · have hg : l[j]? = some l[j] := by simp [hl, hj]
    rw [rowOf_get hj, List.getElem?_map, hg]
    have := wf_u64 (h l[j] (by simp))
    unfold fnOf
    rw [List.getD_eq_getElem?_getD, hg]
    show some (Value.int .u64 l[j]) = some (Value.int .u64 ((l[j].toNat : Nat) : Int))
    rw [Int.toNat_of_nonneg this.1]
  · rw [List.getElem?_eq_none (by rw [List.length_map, hl]; omega), List.getElem?_eq_none (by rw [rowOf_length]; omega)]
end Go.Am.Seat
namespace Go.Am.Seat
open Go.Proofs Go.Am
theorem lawLLw (a : List Int) (la : a.length = 8) (wa : ∀ n, n ∈ a → (Lit.int .u64 n).wf = true) (b : List Int) (lb : b.length = 8) (wb : ∀ n, n ∈ b → (Lit.int .u64 n).wf = true) :
    ∃ m', runK E mem1 K1 2001 5 [.agg ⟨a.map (.int .u64)⟩, .agg ⟨b.map (.int .u64)⟩] mem1 = some (.bool true, m') := by
  rw [words_wide la wa, words_wide lb wb]
  exact lawLL _ _ (fnOf_lt wa) (fnOf_lt wb)
end Go.Am.Seat
namespace Go.Am
noncomputable section
def ren0 (P : Program) (m : Mem) : Ren := fun k => match m[k]? with
  | some (.tab e cs) => some ⟨k, cs.length, ((P.info? e).map (·.size)).getD 0⟩
  | some _ => some ⟨k, 0, 0⟩
  | none => none
def BlkAt (P : Program) (W : World) (k : Nat) : Blk → Prop
  | .dead => True
  | .tab e cs => W.heap[k]? = some (.cells ⟨cs⟩ e (0, 0)) ∧ (P.info? e).isSome = true ∧ cs.all lit0 = true
  | .row .. => False
theorem mr_tabs {P : Program} {m : Mem} {W : World} (hG : P.globals.size ≤ m.length) (hsize : m.length ≤ W.heap.size) (hb : ∀ k b, m[k]? = some b → BlkAt P W k b) : MR P (ren0 P m) m W := by
  have hr : ∀ k x, ren0 P m k = some x → k < m.length ∧ x.r = k := by
    intro k x h
    unfold ren0 at h
    cases hm : m[k]? with
    | none => rw [hm] at h; cases h
    | some b =>
      have hk : k < m.length := (List.getElem?_eq_some_iff.1 hm).1
      rw [hm] at h
      cases b <;> (cases h; exact ⟨hk, rfl⟩)
  have hs : ∀ k, k < m.length → ∃ x, ren0 P m k = some x ∧ x.r = k := by
    intro k hk
    have hm : m[k]? = some m[k] := by simp [hk]
    cases hq : m[k] with
    | dead => exact ⟨_, by unfold ren0; rw [hm, hq], rfl⟩
    | row ro e cs => exact ⟨_, by unfold ren0; rw [hm, hq], rfl⟩
    | tab e cs => exact ⟨_, by unfold ren0; rw [hm, hq], rfl⟩
  have hl : ∀ k ro e cs, look m k = some (ro, e, cs) → m[k]? = some (.tab e cs) := by
    intro k ro e cs h
    unfold look at h
    split at h
    · rename_i b hm
      have := hb k b hm
      cases b with
      | dead => simp [Blk.cells?] at h
      | row => exact absurd this id
      | tab e' cs' =>
        simp [Blk.cells?] at h
        obtain ⟨_, rfl, rfl⟩ := h
        exact hm
    · cases h
  refine ⟨fun k hk => ?_, fun k x h => ?_, fun g hg => hs g (by omega), fun k ro e cs h => ?_, fun k e cs k' ro' e' cs' x x' h => ?_, fun k e cs h => ?_⟩
  · unfold ren0
    rw [List.getElem?_eq_none hk]
  · obtain ⟨h1, h2⟩ := hr k x h
    omega
  · have hm := hl k ro e cs h
    obtain ⟨h1, h2, h3⟩ := hb k _ hm
    refine ⟨⟨k, cs.length, ((P.info? e).map (·.size)).getD 0⟩, ⟨cs⟩, (0, 0), by unfold ren0; rw [hm], h1, rfl, Nat.le_refl _, fun i u hu => ⟨u, by simpa using hu, .lit ?_⟩, fun _ => loose_zero _, ?_⟩
    · exact lit2_of_lit1 (lit1_of_lit0 (List.all_eq_true.1 h3 u (List.mem_of_getElem? hu)))
    · cases hi : P.info? e with
      | none => rw [hi] at h2; cases h2
      | some i => rfl
  · exact absurd (hb k _ h) id
  · obtain ⟨_, _, h3⟩ := hb k _ h
    intro v hv
    exact List.all_eq_true.1 h3 v hv
theorem shaped_at {P : Program} {W : World} (h : W.ShapedOpen P) {g : Nat} {t : TypeId} (hg : g < P.globals.size) (h0 : (((begin P (fun _ _ => 0) default).world.heap[g]?).bind Obj.row?).map (·.2) = some t) :
    ∃ cs, W.heap[g]? = some (.cells cs t (0, 0)) := by
  obtain ⟨⟨z, t'⟩, h1, h2⟩ := Option.map_eq_some_iff.1 h0
  simp only at h2
  subst h2
  obtain ⟨cs, hc, _⟩ := h.1 g z t' hg h1
  exact ⟨cs, hc⟩
theorem tab_at {P : Program} {W : World} {name : String} {k : IntKind} {zs : List Int} {g : Nat} {t : TypeId} {cs : Array Value} (hg : P.globalNamed name = some g) (hc : W.heap[g]? = some (.cells cs t (0, 0))) (h : Lib.TabIs P W name k zs) :
    W.heap[g]? = some (.cells ⟨zs.map (.int k)⟩ t (0, 0)) := by
  unfold Lib.TabIs World.var? at h
  rw [hg] at h
  simp only [Option.bind_some, hc] at h
  cases h
  exact hc
theorem laid_tail {P : Program} {x : String × DataW Unit} {r : List (String × DataW Unit)} {w : World} (h : laidMet P (x :: r) w) : laidMet P r w := by
  obtain ⟨ps, hv, hnd, hrows⟩ := h
  obtain ⟨n, d⟩ := x
  obtain ⟨g, t, cs, fuel, p, q, _, _, _, _, hq, rfl⟩ := hv
  exact ⟨q, hq, List.Nodup.sublist (List.sublist_append_right _ _) hnd, fun b off hm => hrows b off (List.mem_append_right _ hm)⟩
theorem below_of_ends {P : Program} {ρ : Ren} {m m1 : Mem} {w w1 : World} {v : Value} {e : Ending} (hm : ∀ (k : Nat) (e : TypeId) (cs : List Value), m[k]? ≠ some (Blk.row false e cs)) (hv : lit2 v = true) (h : Ends P ρ m w v m1 e w1) : e = .returned v ∧ Go.RowKit.Below w.heap.size w w1 := by
  obtain ⟨v', ρ1, rfl, hvr, _, hx⟩ := h
  refine ⟨?_, ⟨hx.os, hx.tape, hx.output, hx.size, fun r hr => hx.kept r hr fun k e cs _ hk _ => absurd hk (hm k e cs)⟩⟩
  rw [hvr.eq_of_lit2 hv]
end
end Go.Am
namespace Go.Am
variable {H : Type} {enc : TypeId × Value → H} {P : Program} {W : World} {base : Nat} {spare : Nat → Bool} {held : Bool}
theorem open_words {r : Reach} {b0 : Nat} {t e : TypeId} {v : Value} {d : DataW H} {ps : List MemPlace} (ht : P.underlying t = some (.array 8 e)) (he : P.underlying e = some (.int .u64)) (hc : P.cellsOf t = 8) (hce : P.cellsOf e = 1)
    (hval : Value.okWide P W r b0 t v) (hd : DataW.Trod enc P W base spare held t v d ps) :
    ∃ l : List Int, l.length = 8 ∧ v = .agg ⟨l.map (.int .u64)⟩ ∧ d = .agg (l.map fun n => .lit (.int .u64 n)) ∧ ps = [] ∧ ∀ n, n ∈ l → (Lit.int .u64 n).wf = true := by
  unfold Value.okWide at hval
  simp only [ht] at hval
  obtain ⟨⟨cs⟩, rfl, hsz, _⟩ := hval
  have hlen : cs.length = 8 := by rw [hc] at hsz; simpa using hsz
  obtain ⟨fuel, hf⟩ := hd
  cases fuel with
  | zero => simp [DataW.trod] at hf
  | succ fuel =>
    unfold DataW.trod at hf
    simp only [ht, Value.cells] at hf
    match cs, hlen with
    | [c0, c1, c2, c3, c4, c5, c6, c7], _ =>
      simp only [List.length_cons, List.length_nil, hc, hce, if_true, show List.range 8 = [0, 1, 2, 3, 4, 5, 6, 7] from rfl, List.mapM_cons, List.mapM_nil, Nat.mul_one, List.drop_zero, List.drop_succ_cons, List.take_succ_cons, List.take_zero, Option.pure_def, Option.bind_eq_bind, Nat.zero_add, Nat.reduceAdd] at hf
      obtain ⟨xs, hx, hd⟩ := Option.map_eq_some_iff.1 hf
      obtain ⟨x0, h0, a0⟩ := Option.bind_eq_some_iff.1 hx
      obtain ⟨y0, b0, e0⟩ := Option.bind_eq_some_iff.1 a0
      obtain ⟨x1, h1, a1⟩ := Option.bind_eq_some_iff.1 b0
      obtain ⟨y1, b1, e1⟩ := Option.bind_eq_some_iff.1 a1
      obtain ⟨x2, h2, a2⟩ := Option.bind_eq_some_iff.1 b1
      obtain ⟨y2, b2, e2⟩ := Option.bind_eq_some_iff.1 a2
      obtain ⟨x3, h3, a3⟩ := Option.bind_eq_some_iff.1 b2
      obtain ⟨y3, b3, e3⟩ := Option.bind_eq_some_iff.1 a3
      obtain ⟨x4, h4, a4⟩ := Option.bind_eq_some_iff.1 b3
      obtain ⟨y4, b4, e4⟩ := Option.bind_eq_some_iff.1 a4
      obtain ⟨x5, h5, a5⟩ := Option.bind_eq_some_iff.1 b4
      obtain ⟨y5, b5, e5⟩ := Option.bind_eq_some_iff.1 a5
      obtain ⟨x6, h6, a6⟩ := Option.bind_eq_some_iff.1 b5
      obtain ⟨y6, b6, e6⟩ := Option.bind_eq_some_iff.1 a6
      obtain ⟨x7, h7, a7⟩ := Option.bind_eq_some_iff.1 b6
      obtain ⟨y7, b7, e7⟩ := Option.bind_eq_some_iff.1 a7
      obtain ⟨n0, g0, rfl, w0⟩ := DataW.trod_int he h0
      obtain ⟨n1, g1, rfl, w1⟩ := DataW.trod_int he h1
      obtain ⟨n2, g2, rfl, w2⟩ := DataW.trod_int he h2
      obtain ⟨n3, g3, rfl, w3⟩ := DataW.trod_int he h3
      obtain ⟨n4, g4, rfl, w4⟩ := DataW.trod_int he h4
      obtain ⟨n5, g5, rfl, w5⟩ := DataW.trod_int he h5
      obtain ⟨n6, g6, rfl, w6⟩ := DataW.trod_int he h6
      obtain ⟨n7, g7, rfl, w7⟩ := DataW.trod_int he h7
      cases g0; cases g1; cases g2; cases g3; cases g4; cases g5; cases g6; cases g7
      simp only [Option.some.injEq] at b7 e0 e1 e2 e3 e4 e5 e6 e7
      subst b7 e7 e6 e5 e4 e3 e2 e1 e0
      simp only [List.map_cons, List.map_nil, List.flatMap_cons, List.flatMap_nil, List.append_nil, Prod.mk.injEq] at hd
      obtain ⟨rfl, rfl⟩ := hd
      refine ⟨[n0, n1, n2, n3, n4, n5, n6, n7], rfl, rfl, rfl, rfl, fun n hn => ?_⟩
      simp only [List.mem_cons, List.not_mem_nil, or_false] at hn
      rcases hn with rfl | rfl | rfl | rfl | rfl | rfl | rfl | rfl <;> assumption
theorem shut_words {t e : TypeId} {l : List Int} (ht : P.underlying t = some (.array 8 e)) (he : P.underlying e = some (.int .u64)) (hc : P.cellsOf t = 8) (hce : P.cellsOf e = 1) (hl : l.length = 8) (hw : ∀ n, n ∈ l → (Lit.int .u64 n).wf = true) :
    DataW.Trod enc P W base spare held t (.agg ⟨l.map (.int .u64)⟩) (.agg (l.map fun n => .lit (.int .u64 n))) [] := by
  match l, hl with
  | [n0, n1, n2, n3, n4, n5, n6, n7], _ =>
    refine ⟨2, ?_⟩
    have h : ∀ n, n ∈ [n0, n1, n2, n3, n4, n5, n6, n7] → DataW.trod enc P W base spare held 1 e [.int .u64 n] = some (.lit (.int .u64 n), []) := fun n hn => by
      simp only [DataW.trod, he, hw n hn, and_self, if_true]
    unfold DataW.trod
    simp only [ht, Value.cells, List.map_cons, List.map_nil, List.length_cons, List.length_nil, hc, hce, if_true, show List.range 8 = [0, 1, 2, 3, 4, 5, 6, 7] from rfl, List.mapM_cons, List.mapM_nil, Nat.mul_one, List.drop_zero, List.drop_succ_cons, List.take_succ_cons, List.take_zero, Option.pure_def, Option.bind_eq_bind, Nat.zero_add, Nat.reduceAdd]
    rw [h n0 (by simp), h n1 (by simp), h n2 (by simp), h n3 (by simp), h n4 (by simp), h n5 (by simp), h n6 (by simp), h n7 (by simp)]
    rfl
end Go.Am
