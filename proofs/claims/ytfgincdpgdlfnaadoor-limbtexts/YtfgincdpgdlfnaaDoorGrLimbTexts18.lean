/-
  Texts of my own, put together: Y2, KW8, Y3, Y4, Y5.
-/
import Derived.Test.YtfgincdpgdlfnaaDoorGrLimbTexts17
import Derived.Test.YtfgincdpgdlfnaaDoorGrLimbTexts13
set_option linter.unusedSimpArgs false
set_option linter.unusedVariables false
set_option maxRecDepth 100000
namespace Go.Am.Seat
open Go.Proofs Go.Am
def lenV (v : Value) : Option Int := match v with
  | .slice none 0 0 => some 0
  | .slice (some _) n _ => some ((n : Nat) : Int)
  | _ => none
theorem lenN0 (ty : TypeId) : apC1 E.P .len #[31] ty (.slice none 0 0) = some (.int .i64 0) := by kernel_rfl
theorem len_N {T : List Value} {m : Mem} {d : Option Tmp} {j : Nat} {ty : TypeId} {pos : String} {af : Array Edge} {g : Option (Nat × Bool)} :
    abuiltin E.P T m { dst := d, op := .call { callee := .builtin .len, args := #[.tmp j], argTypes := #[31] }, type := ty, pos := pos, after := af, guard := g } .len [.tmp j] [31] =
      match lenV (nth T j) with
      | some n => some (.int .i64 n, m)
      | none => (match alen E.P 31 (nth T j) with
        | some v => some (v, m)
        | none => (apure E.P T { dst := d, op := .call { callee := .builtin .len, args := #[.tmp j], argTypes := #[31] }, type := ty, pos := pos, after := af, guard := g }).map (·, m)) := by
  cases h : lenV (nth T j) with
  | none => rfl
  | some n =>
    generalize hv : nth T j = v at h
    unfold lenV at h
    split at h
    · cases h
      simp only [abuiltin, ev, hv, alen, apure_call1, lenN0, lit2, lit1, lit0, if_true, Option.map_some]
    · cases h
      simp only [abuiltin, ev, hv, alen, und27]
    · cases h
theorem abuiltin_app {T : List Value} {m : Mem} {o : Oper} {a b : Operand} {sT xT : TypeId} : abuiltin E.P T m o .append [a, b] [sT, xT] = match aappend E.P sT xT (ev T a) (ev T b) m with
    | some r => some r
    | none => aappendZ E.P sT xT (ev T a) (ev T b) m := rfl
def NumA (m : Mem) (v : Value) (l : List Nat) : Prop := lenV v = some ((l.length : Nat) : Int) ∧
  ∀ (i x : Nat), l[i]? = some x → ∃ b o, aindexAddr E.P 31 v (.int .i64 (i : Nat)) = some (.pointer (some ⟨b, o, none⟩)) ∧ cellAt m b o = some (.int .i64 (x : Nat))
theorem NumA.nil (m : Mem) : NumA m (.slice none 0 0) [] := ⟨rfl, fun i x h => by simp at h⟩
theorem cell_in {m : Mem} {b o : Nat} {v : Value} (h : cellAt m b o = some v) : b < m.length := by
  by_cases hb : b < m.length
  · exact hb
  · have : look m b = none := by
      unfold look
      rw [List.getElem?_eq_none (by omega)]
    unfold cellAt at h
    rw [this] at h
    cases h
theorem cell_same {m m' : Mem} {b : Nat} (h : m'[b]? = m[b]?) (o : Nat) : cellAt m' b o = cellAt m b o := by
  unfold cellAt look
  rw [h]
theorem cell_sealed (m : Mem) (b o : Nat) : cellAt (m.map sealed) b o = cellAt m b o := by
  unfold cellAt look
  rw [List.getElem?_map]
  cases m[b]? with
  | none => rfl
  | some x => cases x <;> rfl
theorem NumA.keep {m m' : Mem} {v : Value} {l : List Nat} (h : NumA m v l) (hk : ∀ k, k < m.length → m'[k]? = m[k]?) : NumA m' v l := by
  refine ⟨h.1, fun i x hx => ?_⟩
  obtain ⟨b, o, h1, h2⟩ := h.2 i x hx
  exact ⟨b, o, h1, by rw [cell_same (hk b (cell_in h2))]; exact h2⟩
theorem NumA.sealed {m : Mem} {v : Value} {l : List Nat} (h : NumA m v l) : NumA (m.map sealed) v l := by
  refine ⟨h.1, fun i x hx => ?_⟩
  obtain ⟨b, o, h1, h2⟩ := h.2 i x hx
  exact ⟨b, o, h1, by rw [cell_sealed]; exact h2⟩
theorem NumA.lit {m : Mem} {v : Value} {l : List Nat} (h : NumA m v l) (hv : lit2 v = true) : v = .slice none 0 0 ∧ l = [] := by
  have h1 := h.1
  unfold lenV at h1
  split at h1
  · simp only [Option.some.injEq] at h1
    exact ⟨rfl, List.eq_nil_of_length_eq_zero (by omega)⟩
  · simp [lit2, lit1, lit0] at hv
  · cases h1
theorem NumA.row {m : Mem} {b n c : Nat} {ro : Bool} {L : List Nat} (h : m[b]? = some (.row ro 3 (cellsN L))) (hn : n ≤ L.length) : NumA m (.slice (some ⟨b, 0, none⟩) n c) (L.take n) := by
  refine ⟨by simp only [lenV, List.length_take, Nat.min_eq_left hn], fun i x hx => ⟨b, i, ?_, ?_⟩⟩
  · have hi : i < n := by
      have := (List.getElem?_eq_some_iff.1 hx).1
      rw [List.length_take] at this
      omega
    exact ix27 hi
  · have hi : i < n := by
      have := (List.getElem?_eq_some_iff.1 hx).1
      rw [List.length_take] at this
      omega
    rw [List.getElem?_take, if_pos hi] at hx
    rw [cellAt_row h, cellsN_get hx]
def NumR (m : Mem) (v : Value) (m' : Mem) (r : Nat) : Prop := (v = .slice none 0 0 ∧ m' = m ∧ r = 0) ∨
  ∃ (L : List Nat) (n : Nat), n ≤ L.length ∧ L.take n = dig r ∧ v = .slice (some ⟨m.length, 0, none⟩) n L.length ∧ m' = m ++ [.row false 3 (cellsN L)] ∧ L ≠ []
theorem NumR.is {m m' : Mem} {v : Value} {r : Nat} (h : NumR m v m' r) : NumA m' v (dig r) := by
  rcases h with ⟨rfl, rfl, rfl⟩ | ⟨L, n, h1, h2, rfl, rfl, hne⟩
  · rw [dig_zero]; exact NumA.nil _
  · rw [← h2]
    exact NumA.row (ro := false) (by simp) h1
theorem NumR.kept {m m' : Mem} {v : Value} {r : Nat} (h : NumR m v m' r) : ∀ k, k < m.length → m'[k]? = m[k]? := by
  rcases h with ⟨rfl, rfl, rfl⟩ | ⟨L, n, h1, h2, rfl, rfl, hne⟩
  · exact fun _ _ => rfl
  · exact fun k hk => List.getElem?_append_left hk
def NumB (B : Nat) (v : Value) (m' : Mem) (r : Nat) : Prop := (v = .slice none 0 0 ∧ r = 0) ∨
  ∃ (L : List Nat) (n b : Nat) (ro : Bool), n ≤ L.length ∧ L.take n = dig r ∧ B ≤ b ∧ v = .slice (some ⟨b, 0, none⟩) n L.length ∧ m'[b]? = some (.row false 3 (cellsN L)) ∧ L ≠ []
theorem cellsN_lits (L : List Nat) : (cellsN L).all lit0 = true := by
  unfold cellsN
  rw [List.all_map, List.all_eq_true]
  intro x _
  rfl
theorem NumB.coll {m m1 : Mem} {B : Nat} {v : Value} {r : Nat} (h : NumB B v m1 r) : ∃ v' m', acoll m B v m1 = some (v', m') ∧ NumR m v' m' r := by
  rcases h with ⟨rfl, rfl⟩ | ⟨L, n, b, ro, h1, h2, h3, rfl, h4, hne⟩
  · exact ⟨_, m, by unfold acoll; exact if_pos rfl, .inl ⟨rfl, rfl, rfl⟩⟩
  · exact ⟨_, _, acoll_new h3 h4 (cellsN_lits L), .inr ⟨L, n, h1, h2, rfl, rfl, hne⟩⟩
theorem num2_call {self : Self} {g : FuncId} {m : Mem} {a b : Value} {la lb : List Nat} {r : Nat} (hf : E.fast g = none) (hw : E.wr g = false) (ha : NumA m a la) (hb : NumA m b lb)
    (h : ∀ M : Mem, NumA M a la → NumA M b lb → ∃ v m1, self g [a, b] M = some (v, m1) ∧ NumB M.length v m1 r) : ∃ v m', ainv E self g [a, b] m = some (v, m') ∧ NumR m v m' r := by
  unfold ainv
  by_cases hl : ([a, b].all lit2) = true
  · rw [if_pos hl, hf]
    simp only [List.all_cons, List.all_nil, Bool.and_true, Bool.and_eq_true] at hl
    obtain ⟨rfl, rfl⟩ := ha.lit hl.1
    obtain ⟨rfl, rfl⟩ := hb.lit hl.2
    obtain ⟨v, m1, h1, h2⟩ := h ((m.take E.G).map onlyTab) (NumA.nil _) (NumA.nil _)
    simp only [h1]
    exact h2.coll
  · rw [if_neg hl, hw]
    obtain ⟨v, m1, h1, h2⟩ := h (m.map sealed) ha.sealed hb.sealed
    simp only [Bool.false_eq_true, if_false, h1]
    exact h2.coll
def GN (B : Nat) (m : Mem) (v : Value) (L : List Nat) : Prop := (L = [] ∧ v = .slice none 0 0) ∨ (∃ b, B ≤ b ∧ v = .slice (some ⟨b, 0, none⟩) L.length L.length ∧ m[b]? = some (.row false 3 (cellsN L)) ∧ L ≠ [])
theorem appN {B : Nat} {m : Mem} {v : Value} {x : Nat} {L : List Nat} (h : GN B m v L) (hB : B ≤ m.length) (hl : L.length ≤ 100000) :
    ∃ v' m', aappend E.P 31 31 v (.slice (some ⟨m.length, 0, none⟩) 1 1) (m ++ [.row false 3 [.int .i64 (x : Nat)]]) = some (v', m') ∧ GN B m' v' (L ++ [x]) ∧ m.length ≤ m'.length ∧ ∀ k, k < B → m'[k]? = m[k]? := by
  obtain ⟨hs, i, z, h1, h2, h3, h4, h5, h6⟩ := rowNum
  have hcs : cellsN (L ++ [x]) = cellsN L ++ [.int .i64 (x : Nat)] := by unfold cellsN; rw [List.map_append]; rfl
  have hsrc : asrc (m ++ [Blk.row false 3 [.int .i64 (x : Nat)]]) 1 (.slice (some ⟨m.length, 0, none⟩) 1 1) = some (1, [.int .i64 (x : Nat)]) := by
    have h : (m ++ [Blk.row false 3 [.int .i64 (x : Nat)]])[m.length]? = some (.row false 3 [.int .i64 (x : Nat)]) := by simp
    unfold asrc
    simp only [lookRow h]
    rfl
  rcases h with ⟨rfl, rfl⟩ | ⟨b, hBb, rfl, hb, hne⟩
  · refine ⟨.slice (some ⟨(m ++ [Blk.row false 3 [.int .i64 (x : Nat)]]).length, 0, none⟩) 1 1, m ++ [.row false 3 [.int .i64 (x : Nat)]] ++ [.row false 3 [.int .i64 (x : Nat)]], ?_, .inr ⟨_, by simp; omega, rfl, by simp [cellsN], by simp⟩, by simp, fun k hk => ?_⟩
    · unfold aappend
      simp only [hs, h1, h2, h3, hsrc, isIntD, h6]
      rw [if_neg (by simp [cellOk, h4]), if_neg (by omega), if_pos (by omega)]
    · rw [List.append_assoc, List.getElem?_append_left (by omega)]
  · have hbm := lt_of_at hb
    have hb2 : (m ++ [Blk.row false 3 [.int .i64 (x : Nat)]])[b]? = some (.row false 3 (cellsN L)) := by rw [List.getElem?_append_left hbm]; exact hb
    refine ⟨.slice (some ⟨(m ++ [Blk.row false 3 [.int .i64 (x : Nat)]]).length, 0, none⟩) (L.length + 1) (L.length + 1), (m ++ [Blk.row false 3 [.int .i64 (x : Nat)]]).set b .dead ++ [.row false 3 (cellsN L ++ [.int .i64 (x : Nat)])], ?_, .inr ⟨m.length + 1, by omega, by simp, by rw [List.getElem?_append_right (by simp), hcs]; simp, by simp⟩, by simp; omega, fun k hk => ?_⟩
    · unfold aappend
      simp only [hs, h1, h2, h3, hsrc, isIntD, h6, hb2]
      have hr : (2 * (L.length + 1) + 768) * i.bytes ≤ 281474976710656 := by
        have : (2 * (L.length + 1) + 768) * i.bytes ≤ (2 * (L.length + 1) + 768) * 8 := Nat.mul_le_mul_left _ h5
        omega
      rw [if_neg (by simp [cellOk, h4]), if_neg (by omega), if_pos ⟨trivial, trivial, by rw [cellsN_length]; omega, hr⟩]
      rw [Nat.mul_one, List.take_of_length_le (by rw [cellsN_length]; omega)]
    · rw [List.getElem?_append_left (by simp; omega), List.getElem?_set_ne (by omega), List.getElem?_append_left (by omega)]
theorem rem256 (s : Nat) : abin .rem .i64 ((s : Nat) : Int) .i64 256 = some (.int .i64 ((s % 256 : Nat) : Int)) := by
  have h : ∀ k : Int, abin .rem .i64 k .i64 256 = some (.int .i64 (k.tmod 256)) := fun k => by kernel_rfl
  rw [h, Int.tmod_eq_emod_of_nonneg (by omega)]
  congr 2
theorem quo256i {s : Nat} (hs : s < 1000000) : abin .quo .i64 ((s : Nat) : Int) .i64 256 = some (.int .i64 ((s / 256 : Nat) : Int)) := by
  have h : ∀ k : Int, abin .quo .i64 k .i64 256 = some (.int .i64 (wrapF .i64 (k.tdiv 256))) := fun k => by kernel_rfl
  rw [h, Int.tdiv_eq_ediv_of_nonneg (by omega), wrap_i64 (by omega) (by omega)]
  congr 2
theorem addNN {a b : Nat} (h : a + b < 1000000000) : wrapF .i64 (((a : Nat) : Int) + ((b : Nat) : Int)) = ((a + b : Nat) : Int) := by rw [wrap_i64 (by omega) (by omega)]; omega
def Runs (R : Nat → Self) (K : List Fact) : Prop := ∀ (n : Nat) (f : FuncId) (args : List Value) (m : Mem) (r : Value × Mem), hasF K f = false → abody E (R n) (n + 1) f args m = some r → R (n + 1) f args m = some r
theorem Runs.b {R : Nat → Self} {K : List Fact} (hR : Runs R K) {n : Nat} {f : FuncId} {args : List Value} {m : Mem} {r : Value × Mem} (hK : hasF K f = false) (h : abody E (R n) (n + 1) f args m = some r) : R (n + 1) f args m = some r := hR n f args m r hK h
theorem runsK (M : Mem) (K : List Fact) : Runs (fun n => runK E M K n) K := fun n f args m r hK h => (runK_other hK).trans h
theorem trim_nil {self : Self} {k : Nat} {m : Mem} : abody E self (k + 1) 16 [.slice none 0 0] m = some (.slice none 0 0, m) := by kernel_rfl
def CTrim (self : Self) : Prop := ∀ (B : Nat) (m : Mem) (v : Value) (L : List Nat) (r : Nat), GN B m v L → L.length ≤ 1000 → (∀ x ∈ L, x < 256) → val L = r → ∃ v', ainv E self 16 [v] m = some (v', m) ∧ NumB B v' m r
theorem trim_val {L : List Nat} {n : Nat} (h : TrimAt L n) (hx : ∀ x ∈ L, x < 256) : L.take n = dig (val L) := by
  obtain ⟨h1, h2, h3⟩ := h
  have hv : val L = val (L.take n) := by
    have h4 : val L = val (L.take n ++ L.drop n) := by rw [List.take_append_drop]
    rw [h4, val_append, val_noughts (l := L.drop n) fun x hx => ?_, Nat.mul_zero, Nat.add_zero]
    obtain ⟨j, hj⟩ := List.getElem?_of_mem hx
    rw [List.getElem?_drop] at hj
    have h5 := h2 (n + j) (by omega) (List.getElem?_eq_some_iff.1 hj).1
    rw [h5] at hj
    cases hj
    rfl
  rw [hv]
  refine (dig_val (fun x hx9 => hx x (List.mem_of_mem_take hx9)) ?_).symm
  rcases h3 with rfl | ⟨x, h4, h5⟩
  · left; rfl
  · by_cases hn : n = 0
    · subst hn; left; rfl
    · right
      refine ⟨x, h4, ?_⟩
      rw [List.length_take, Nat.min_eq_left h1, List.getElem?_take, if_pos (by omega)]
      exact h5
theorem ctrim {R : Nat → Self} {K : List Fact} (hR : Runs R K) {n : Nat} (hK : hasF K 16 = false) (hn : 1000 ≤ n) : CTrim (R (n + 1)) := by
  intro B m v L r h hL hx hr
  rcases h with ⟨rfl, rfl⟩ | ⟨b, hBb, rfl, hb, hne⟩
  · refine ⟨.slice none 0 0, ?_, .inl ⟨rfl, by rw [← hr]; rfl⟩⟩
    exact ainv_lit rfl (by kernel_rfl) (hR.b hK trim_nil) rfl
  · have hpos : 0 < L.length := List.length_pos_iff.2 hne
    have hbs : (m.map sealed)[b]? = some (.row true 3 (cellsN L)) := by rw [List.getElem?_map, hb]; rfl
    obtain ⟨k, hT, hbd⟩ := trim_body (self := (R n)) (nf := n + 1) hbs hpos hL (by omega)
    refine ⟨.slice (some ⟨b, 0, none⟩) k L.length, ?_, .inr ⟨L, k, b, false, hT.1, by rw [← hr]; exact trim_val hT hx, hBb, rfl, hb, hne⟩⟩
    unfold ainv
    rw [show ([Value.slice (some ⟨b, 0, none⟩) L.length L.length].all lit2) = false from rfl, show E.wr 16 = false from by kernel_rfl]
    simp only [Bool.false_eq_true, if_false, hR.b hK hbd]
    exact acoll_old (by rw [List.length_map]; exact lt_of_at hb)
end Go.Am.Seat
namespace Go.Am.Seat
open Go.Proofs Go.Am Go.Am.Num Go.Am.Kn
def limbFs : List FuncId := [36, 26, 38, 28, 27, 25, 22, 14]
def NoL (K : List Fact) : Prop := ∀ f ∈ limbFs, hasF K f = false
theorem div_of {x y q r : Nat} (h : x = q * y + r) (hr : r < y) : x / y = q ∧ x % y = r := (Nat.div_mod_unique (by omega)).2 ⟨by rw [h, Nat.mul_comm]; omega, hr⟩
section
variable {R : Nat → Self} {K : List Fact} (hR : Runs R K) (hK : NoL K) {n : Nat}
include hR hK
theorem kMl (hn : 1001 ≤ n) : Ml64 (R n) := by
  obtain ⟨j, rfl⟩ : ∃ j, n = j + 1 := ⟨n - 1, by omega⟩
  exact fun x y hx hy => ans_of rfl (by kernel_rfl) rfl fun m => ⟨_, hR.b (hK _ (by decide)) (ml_body hx hy)⟩
theorem kLn (hn : 1001 ≤ n) {x : Nat} (hx : x < 18446744073709551616) : Ans (R n) 26 [U x] (.int .i64 ((lenW x : Nat) : Int)) := by
  obtain ⟨j, rfl⟩ : ∃ j, n = j + 1 := ⟨n - 1, by omega⟩
  exact ans_of rfl (by kernel_rfl) rfl fun m => ⟨_, hR.b (hK _ (by decide)) (ln64_body hx)⟩
theorem kLz (hn : 1002 ≤ n) {x : Nat} (hx : x < 18446744073709551616) : Ans (R n) 38 [U x] (.int .i64 ((64 - lenW x : Nat) : Int)) := by
  obtain ⟨j, rfl⟩ : ∃ j, n = j + 1 := ⟨n - 1, by omega⟩
  exact ans_of rfl (by kernel_rfl) rfl fun m => ⟨_, hR.b (hK _ (by decide)) (lz_body (kLn hR hK (by omega) hx))⟩
theorem kDv64 (hn : 1003 ≤ n) : CDv64 (R n) := by
  obtain ⟨j, rfl⟩ : ∃ j, n = j + 1 := ⟨n - 1, by omega⟩
  exact fun hi lo y h1 h2 h3 => ans_of rfl (by kernel_rfl) rfl fun m => ⟨_, hR.b (hK _ (by decide)) (dv64_body h1 h2 h3 (kLz hR hK (by omega) h2) (by omega))⟩
theorem kMs (hn : 1002 ≤ n) : CMs (R n) := by
  obtain ⟨j, rfl⟩ : ∃ j, n = j + 1 := ⟨n - 1, by omega⟩
  exact fun x y a c hx hy ha hc => ans_of rfl (by kernel_rfl) rfl fun m => ⟨_, hR.b (hK _ (by decide)) (ms_body (kMl hR hK (by omega)) hx hy ha hc)⟩
theorem kDw (hn : 1004 ≤ n) : CDw (R n) := by
  obtain ⟨j, rfl⟩ : ∃ j, n = j + 1 := ⟨n - 1, by omega⟩
  intro x d hx h0 hd
  refine ans_of rfl (by kernel_rfl) rfl fun m => ?_
  obtain ⟨o, l, m', e1, e2, ho, h⟩ := dw_body (self := R j) (nf := j + 1) (m := m) (kDv64 hR hK (by omega)) (wN_lt x) h0 hd (by omega)
  rw [vN_wN8 hx] at e1
  obtain ⟨e3, e4⟩ := div_of e1 e2
  rw [wide_num ho, ← e3, ← e4] at h
  exact ⟨m', hR.b (hK _ (by decide)) h⟩
theorem kOf (hn : 1001 ≤ n) : COfW (R n) := by
  obtain ⟨j, rfl⟩ : ∃ j, n = j + 1 := ⟨n - 1, by omega⟩
  intro x hx
  refine ans_of rfl (by kernel_rfl) rfl fun m => ?_
  obtain ⟨m', h⟩ := wof_body (self := R j) (nf := j + 1) (m := m) (x := x)
  rw [← wd_small hx] at h
  exact ⟨m', hR.b (hK _ (by decide)) h⟩
end
end Go.Am.Seat
namespace Go.Am.Seat
open Go.Proofs Go.Am
noncomputable def rradd_0 : Array Oper := match Tryd.f19.body with
  | some (.seq (.region _ o _) _) => o
  | _ => #[]
noncomputable def lradd_0 : List Oper := match Tryd.f19.body with
  | some (.seq (.region _ o _) _) => o.toList
  | _ => []
theorem eradd_0 : rradd_0.toList = lradd_0 := rfl
noncomputable def rradd_1 : Array Oper := match Tryd.f19.body with
  | some (.seq _ (.seq (.region _ o _) _)) => o
  | _ => #[]
noncomputable def lradd_1 : List Oper := match Tryd.f19.body with
  | some (.seq _ (.seq (.region _ o _) _)) => o.toList
  | _ => []
theorem eradd_1 : rradd_1.toList = lradd_1 := rfl
noncomputable def rradd_2 : Array Oper := match Tryd.f19.body with
  | some (.seq _ (.seq _ (.seq (.region _ o _) _))) => o
  | _ => #[]
noncomputable def lradd_2 : List Oper := match Tryd.f19.body with
  | some (.seq _ (.seq _ (.seq (.region _ o _) _))) => o.toList
  | _ => []
theorem eradd_2 : rradd_2.toList = lradd_2 := rfl
noncomputable def rradd_3 : Array Oper := match Tryd.f19.body with
  | some (.seq _ (.seq _ (.seq _ (.seq (.seq (.region _ o _) _) _)))) => o
  | _ => #[]
noncomputable def lradd_3 : List Oper := match Tryd.f19.body with
  | some (.seq _ (.seq _ (.seq _ (.seq (.seq (.region _ o _) _) _)))) => o.toList
  | _ => []
theorem eradd_3 : rradd_3.toList = lradd_3 := rfl
noncomputable def lpradd_0 : Code := match Tryd.f19.body with
  | some (.seq _ (.seq _ (.seq _ (.seq (.seq _ (.block _ (.loop c))) _)))) => c
  | _ => .skip
noncomputable def rradd_4 : Array Oper := match Tryd.f19.body with
  | some (.seq _ (.seq _ (.seq _ (.seq (.seq _ (.block _ (.loop (.seq (.seq (.region _ o _) _) _)))) _)))) => o
  | _ => #[]
noncomputable def lradd_4 : List Oper := match Tryd.f19.body with
  | some (.seq _ (.seq _ (.seq _ (.seq (.seq _ (.block _ (.loop (.seq (.seq (.region _ o _) _) _)))) _)))) => o.toList
  | _ => []
theorem eradd_4 : rradd_4.toList = lradd_4 := rfl
theorem gradd_4_4 {T : List Value} {dd : Option Tmp} {op : Op} {ty : TypeId} {pos : String} {af : Array Edge} {want : Bool} : agd rradd_4 T { dst := dd, op := op, type := ty, pos := pos, after := af, guard := some (4, want) } = gdAt T 12 want := agd_at (by kernel_rfl)
theorem gradd_4_10 {T : List Value} {dd : Option Tmp} {op : Op} {ty : TypeId} {pos : String} {af : Array Edge} {want : Bool} : agd rradd_4 T { dst := dd, op := op, type := ty, pos := pos, after := af, guard := some (10, want) } = gdAt T 18 want := agd_at (by kernel_rfl)
noncomputable def rradd_6 : Array Oper := match Tryd.f19.body with
  | some (.seq _ (.seq _ (.seq _ (.seq (.seq _ (.block _ (.loop (.seq _ (.seq (.block _ (.seq (.seq (.region _ o _) _) _)) _))))) _)))) => o
  | _ => #[]
noncomputable def lradd_6 : List Oper := match Tryd.f19.body with
  | some (.seq _ (.seq _ (.seq _ (.seq (.seq _ (.block _ (.loop (.seq _ (.seq (.block _ (.seq (.seq (.region _ o _) _) _)) _))))) _)))) => o.toList
  | _ => []
theorem eradd_6 : rradd_6.toList = lradd_6 := rfl
noncomputable def rradd_7 : Array Oper := match Tryd.f19.body with
  | some (.seq _ (.seq _ (.seq _ (.seq (.seq _ (.block _ (.loop (.seq _ (.seq (.block _ (.seq (.seq _ (.cond _ (.region _ o _) _)) _)) _))))) _)))) => o
  | _ => #[]
noncomputable def lradd_7 : List Oper := match Tryd.f19.body with
  | some (.seq _ (.seq _ (.seq _ (.seq (.seq _ (.block _ (.loop (.seq _ (.seq (.block _ (.seq (.seq _ (.cond _ (.region _ o _) _)) _)) _))))) _)))) => o.toList
  | _ => []
theorem eradd_7 : rradd_7.toList = lradd_7 := rfl
noncomputable def rradd_8 : Array Oper := match Tryd.f19.body with
  | some (.seq _ (.seq _ (.seq _ (.seq (.seq _ (.block _ (.loop (.seq _ (.seq (.block _ (.seq _ (.seq (.seq (.region _ o _) _) _))) _))))) _)))) => o
  | _ => #[]
noncomputable def lradd_8 : List Oper := match Tryd.f19.body with
  | some (.seq _ (.seq _ (.seq _ (.seq (.seq _ (.block _ (.loop (.seq _ (.seq (.block _ (.seq _ (.seq (.seq (.region _ o _) _) _))) _))))) _)))) => o.toList
  | _ => []
theorem eradd_8 : rradd_8.toList = lradd_8 := rfl
noncomputable def rradd_9 : Array Oper := match Tryd.f19.body with
  | some (.seq _ (.seq _ (.seq _ (.seq (.seq _ (.block _ (.loop (.seq _ (.seq (.block _ (.seq _ (.seq (.seq _ (.cond _ (.region _ o _) _)) _))) _))))) _)))) => o
  | _ => #[]
noncomputable def lradd_9 : List Oper := match Tryd.f19.body with
  | some (.seq _ (.seq _ (.seq _ (.seq (.seq _ (.block _ (.loop (.seq _ (.seq (.block _ (.seq _ (.seq (.seq _ (.cond _ (.region _ o _) _)) _))) _))))) _)))) => o.toList
  | _ => []
theorem eradd_9 : rradd_9.toList = lradd_9 := rfl
noncomputable def rradd_10 : Array Oper := match Tryd.f19.body with
  | some (.seq _ (.seq _ (.seq _ (.seq (.seq _ (.block _ (.loop (.seq _ (.seq (.block _ (.seq _ (.seq _ (.seq (.region _ o _) _)))) _))))) _)))) => o
  | _ => #[]
noncomputable def lradd_10 : List Oper := match Tryd.f19.body with
  | some (.seq _ (.seq _ (.seq _ (.seq (.seq _ (.block _ (.loop (.seq _ (.seq (.block _ (.seq _ (.seq _ (.seq (.region _ o _) _)))) _))))) _)))) => o.toList
  | _ => []
theorem eradd_10 : rradd_10.toList = lradd_10 := rfl
noncomputable def rradd_11 : Array Oper := match Tryd.f19.body with
  | some (.seq _ (.seq _ (.seq _ (.seq (.seq _ (.block _ (.loop (.seq _ (.seq (.block _ (.seq _ (.seq _ (.seq _ (.region _ o _))))) _))))) _)))) => o
  | _ => #[]
noncomputable def lradd_11 : List Oper := match Tryd.f19.body with
  | some (.seq _ (.seq _ (.seq _ (.seq (.seq _ (.block _ (.loop (.seq _ (.seq (.block _ (.seq _ (.seq _ (.seq _ (.region _ o _))))) _))))) _)))) => o.toList
  | _ => []
theorem eradd_11 : rradd_11.toList = lradd_11 := rfl
noncomputable def rradd_5 : Array Oper := match Tryd.f19.body with
  | some (.seq _ (.seq _ (.seq _ (.seq (.seq _ (.block _ (.loop (.seq _ (.seq _ (.region _ o _)))))) _)))) => o
  | _ => #[]
noncomputable def lradd_5 : List Oper := match Tryd.f19.body with
  | some (.seq _ (.seq _ (.seq _ (.seq (.seq _ (.block _ (.loop (.seq _ (.seq _ (.region _ o _)))))) _)))) => o.toList
  | _ => []
theorem eradd_5 : rradd_5.toList = lradd_5 := rfl
theorem lpradd_0_eq : lpradd_0 = (.seq (.seq (.region 4 rradd_4 false) (.cond (.tmp 21) .skip (.exit 0))) (.seq (.block 1 (.seq (.seq (.region 6 rradd_6 false) (.cond (.tmp 27) (.region 7 rradd_7 false) .skip)) (.seq (.seq (.region 8 rradd_8 false) (.cond (.tmp 37) (.region 9 rradd_9 false) .skip)) (.seq (.region 10 rradd_10 false) (.region 11 rradd_11 false))))) (.region 5 rradd_5 false))) := rfl
noncomputable def rradd_12 : Array Oper := match Tryd.f19.body with
  | some (.seq _ (.seq _ (.seq _ (.seq _ (.seq (.region _ o _) _))))) => o
  | _ => #[]
noncomputable def lradd_12 : List Oper := match Tryd.f19.body with
  | some (.seq _ (.seq _ (.seq _ (.seq _ (.seq (.region _ o _) _))))) => o.toList
  | _ => []
theorem eradd_12 : rradd_12.toList = lradd_12 := rfl
theorem bodyradd : Tryd.f19.body = some (.seq (.region 0 rradd_0 false) (.seq (.region 1 rradd_1 false) (.seq (.region 2 rradd_2 false) (.seq (.seq (.region 3 rradd_3 false) (.block 0 (.loop lpradd_0))) (.seq (.region 12 rradd_12 false) .ret))))) := rfl
-- ntmps 53
section
variable {self : Self} {nf B : Nat} {m : Mem} {F : Nat → Value} {a b : Value} {la lb L : List Nat} {i c x y : Nat}
theorem radd_AB (h0 : F 0 = a) (h1 : F 1 = b) (h6 : F 6 = .int .i64 (c : Nat)) (h7 : F 7 = .int .i64 (i : Nat)) (hi9 : i < 100000) (ha : NumA m a la) (hb : NumA m b lb) (hx : la[i]? = some x) (hy : lb[i]? = some y) (hs : c + x + y < 1000000) (hS : GN B m (F 5) L) (hB : B ≤ m.length) (hl : L.length ≤ 100000) :
    ∃ F' m', acodeN E self nf lpradd_0 (lst F 53) m = some (.normal, lst F' 53, m') ∧ F' 0 = a ∧ F' 1 = b ∧ F' 6 = .int .i64 (((c + x + y) / 256 : Nat) : Int) ∧ F' 7 = .int .i64 ((i + 1 : Nat) : Int) ∧ GN B m' (F' 5) (L ++ [(c + x + y) % 256]) ∧ m.length ≤ m'.length ∧ ∀ k, k < B → m'[k]? = m[k]? := by
  obtain ⟨ba, oa, ia, ca⟩ := ha.2 i x hx
  have hil := (List.getElem?_eq_some_iff.1 hx).1
  obtain ⟨bb, ob, ib, cb⟩ := hb.2 i y hy
  have hjl := (List.getElem?_eq_some_iff.1 hy).1
  have q1 : decide (((i : Nat) : Int) < ((la.length : Nat) : Int)) = true := decide_eq_true (by omega)
  have q2 : decide (((i : Nat) : Int) < ((lb.length : Nat) : Int)) = true := decide_eq_true (by omega)
  have e1 := addNN (a := c) (b := x) (by omega)
  have e2 := addNN (a := c + x) (b := y) (by omega)
  have e3 := w1 (i := i) (by omega)
  have la9 := ha.1
  have lb9 := hb.1
  generalize hv : F 5 = v at hS
  obtain ⟨v', m', happ, hS', hle, hfr⟩ := appN (x := (c + x + y) % 256) hS hB hl
  have r1 := rem256 (c + x + y)
  have r2 := quo256i (s := c + x + y) (by omega)
  simp only [lpradd_0_eq, eradd_0, eradd_1, eradd_10, eradd_11, eradd_12, eradd_2, eradd_3, eradd_4, eradd_5, eradd_6, eradd_7, eradd_8, eradd_9, lradd_0, lradd_1, lradd_2, lradd_3, lradd_4, lradd_5, lradd_6, lradd_7, lradd_8, lradd_9, lradd_10, lradd_11, lradd_12, gradd_4_10, gradd_4_4, agd_none, gdAt, gdV_bool, gdV_undef, Tryd.f19, List.append_eq, List.cons_append, List.nil_append, apure_call1, apure_call2, apure_call3, bft, btf, acodeN, List.getElem?_toArray, List.getElem?_cons_zero, List.getElem?_cons_succ, aopsN, adrawT, cls, astep, aop, afloat, ev, nth_lst, get_lst, aput, setAt_lst, upd_at, init_zero, init_succ, init_nil, Nat.reduceLT, Nat.reduceEqDiff, reduceIte, len_N, abuiltin_app, Option.map_some, Option.map_none, orElse_some, apure_add, apure_eqlV, eqlVal_str, eqlVal_bool, eqlVal_ptr, eqlVal_slice, eqlVal_wide, eqlVal_int, allT, ↓aop_eqlV, apure_neq, List.map_cons, List.map_nil, List.all_cons, List.all_nil, lit2, lit1, lit0, List.isEmpty_nil, bls, Bool.false_eq_true, if_true, if_false, List.length_map, beq_self_eq_true, uns, h0, h1, h6, h7, hv, la9, lb9, lss64, gtr64', q1, q2, e1, e2, ia, load3, ca, ib, cb, add64', r1, r2, build27, happ, e3]
  exact ⟨_, _, rfl, by simp only [upd_at, Nat.reduceEqDiff, reduceIte, h0], by simp only [upd_at, Nat.reduceEqDiff, reduceIte, h1], by simp only [upd_at, Nat.reduceEqDiff, reduceIte], by simp only [upd_at, Nat.reduceEqDiff, reduceIte], by simp only [upd_at, Nat.reduceEqDiff, reduceIte]; exact hS', hle, hfr⟩
theorem radd_A (h0 : F 0 = a) (h1 : F 1 = b) (h6 : F 6 = .int .i64 (c : Nat)) (h7 : F 7 = .int .i64 (i : Nat)) (hi9 : i < 100000) (ha : NumA m a la) (hb : NumA m b lb) (hx : la[i]? = some x) (hj : lb.length ≤ i) (hs : c + x < 1000000) (hS : GN B m (F 5) L) (hB : B ≤ m.length) (hl : L.length ≤ 100000) :
    ∃ F' m', acodeN E self nf lpradd_0 (lst F 53) m = some (.normal, lst F' 53, m') ∧ F' 0 = a ∧ F' 1 = b ∧ F' 6 = .int .i64 (((c + x) / 256 : Nat) : Int) ∧ F' 7 = .int .i64 ((i + 1 : Nat) : Int) ∧ GN B m' (F' 5) (L ++ [(c + x) % 256]) ∧ m.length ≤ m'.length ∧ ∀ k, k < B → m'[k]? = m[k]? := by
  obtain ⟨ba, oa, ia, ca⟩ := ha.2 i x hx
  have hil := (List.getElem?_eq_some_iff.1 hx).1
  have q1 : decide (((i : Nat) : Int) < ((la.length : Nat) : Int)) = true := decide_eq_true (by omega)
  have q2 : decide (((i : Nat) : Int) < ((lb.length : Nat) : Int)) = false := decide_eq_false (by omega)
  have e1 := addNN (a := c) (b := x) (by omega)
  have e3 := w1 (i := i) (by omega)
  have la9 := ha.1
  have lb9 := hb.1
  generalize hv : F 5 = v at hS
  obtain ⟨v', m', happ, hS', hle, hfr⟩ := appN (x := (c + x) % 256) hS hB hl
  have r1 := rem256 (c + x)
  have r2 := quo256i (s := c + x) (by omega)
  simp only [lpradd_0_eq, eradd_0, eradd_1, eradd_10, eradd_11, eradd_12, eradd_2, eradd_3, eradd_4, eradd_5, eradd_6, eradd_7, eradd_8, eradd_9, lradd_0, lradd_1, lradd_2, lradd_3, lradd_4, lradd_5, lradd_6, lradd_7, lradd_8, lradd_9, lradd_10, lradd_11, lradd_12, gradd_4_10, gradd_4_4, agd_none, gdAt, gdV_bool, gdV_undef, Tryd.f19, List.append_eq, List.cons_append, List.nil_append, apure_call1, apure_call2, apure_call3, bft, btf, acodeN, List.getElem?_toArray, List.getElem?_cons_zero, List.getElem?_cons_succ, aopsN, adrawT, cls, astep, aop, afloat, ev, nth_lst, get_lst, aput, setAt_lst, upd_at, init_zero, init_succ, init_nil, Nat.reduceLT, Nat.reduceEqDiff, reduceIte, len_N, abuiltin_app, Option.map_some, Option.map_none, orElse_some, apure_add, apure_eqlV, eqlVal_str, eqlVal_bool, eqlVal_ptr, eqlVal_slice, eqlVal_wide, eqlVal_int, allT, ↓aop_eqlV, apure_neq, List.map_cons, List.map_nil, List.all_cons, List.all_nil, lit2, lit1, lit0, List.isEmpty_nil, bls, Bool.false_eq_true, if_true, if_false, List.length_map, beq_self_eq_true, uns, h0, h1, h6, h7, hv, la9, lb9, lss64, gtr64', q1, q2, e1, ia, load3, ca, add64', r1, r2, build27, happ, e3]
  exact ⟨_, _, rfl, by simp only [upd_at, Nat.reduceEqDiff, reduceIte, h0], by simp only [upd_at, Nat.reduceEqDiff, reduceIte, h1], by simp only [upd_at, Nat.reduceEqDiff, reduceIte], by simp only [upd_at, Nat.reduceEqDiff, reduceIte], by simp only [upd_at, Nat.reduceEqDiff, reduceIte]; exact hS', hle, hfr⟩
theorem radd_B (h0 : F 0 = a) (h1 : F 1 = b) (h6 : F 6 = .int .i64 (c : Nat)) (h7 : F 7 = .int .i64 (i : Nat)) (hi9 : i < 100000) (ha : NumA m a la) (hb : NumA m b lb) (hi : la.length ≤ i) (hy : lb[i]? = some y) (hs : c + y < 1000000) (hS : GN B m (F 5) L) (hB : B ≤ m.length) (hl : L.length ≤ 100000) :
    ∃ F' m', acodeN E self nf lpradd_0 (lst F 53) m = some (.normal, lst F' 53, m') ∧ F' 0 = a ∧ F' 1 = b ∧ F' 6 = .int .i64 (((c + y) / 256 : Nat) : Int) ∧ F' 7 = .int .i64 ((i + 1 : Nat) : Int) ∧ GN B m' (F' 5) (L ++ [(c + y) % 256]) ∧ m.length ≤ m'.length ∧ ∀ k, k < B → m'[k]? = m[k]? := by
  obtain ⟨bb, ob, ib, cb⟩ := hb.2 i y hy
  have hjl := (List.getElem?_eq_some_iff.1 hy).1
  have q1 : decide (((i : Nat) : Int) < ((la.length : Nat) : Int)) = false := decide_eq_false (by omega)
  have q2 : decide (((i : Nat) : Int) < ((lb.length : Nat) : Int)) = true := decide_eq_true (by omega)
  have e2 := addNN (a := c) (b := y) (by omega)
  have e3 := w1 (i := i) (by omega)
  have la9 := ha.1
  have lb9 := hb.1
  generalize hv : F 5 = v at hS
  obtain ⟨v', m', happ, hS', hle, hfr⟩ := appN (x := (c + y) % 256) hS hB hl
  have r1 := rem256 (c + y)
  have r2 := quo256i (s := c + y) (by omega)
  simp only [lpradd_0_eq, eradd_0, eradd_1, eradd_10, eradd_11, eradd_12, eradd_2, eradd_3, eradd_4, eradd_5, eradd_6, eradd_7, eradd_8, eradd_9, lradd_0, lradd_1, lradd_2, lradd_3, lradd_4, lradd_5, lradd_6, lradd_7, lradd_8, lradd_9, lradd_10, lradd_11, lradd_12, gradd_4_10, gradd_4_4, agd_none, gdAt, gdV_bool, gdV_undef, Tryd.f19, List.append_eq, List.cons_append, List.nil_append, apure_call1, apure_call2, apure_call3, bft, btf, acodeN, List.getElem?_toArray, List.getElem?_cons_zero, List.getElem?_cons_succ, aopsN, adrawT, cls, astep, aop, afloat, ev, nth_lst, get_lst, aput, setAt_lst, upd_at, init_zero, init_succ, init_nil, Nat.reduceLT, Nat.reduceEqDiff, reduceIte, len_N, abuiltin_app, Option.map_some, Option.map_none, orElse_some, apure_add, apure_eqlV, eqlVal_str, eqlVal_bool, eqlVal_ptr, eqlVal_slice, eqlVal_wide, eqlVal_int, allT, ↓aop_eqlV, apure_neq, List.map_cons, List.map_nil, List.all_cons, List.all_nil, lit2, lit1, lit0, List.isEmpty_nil, bls, Bool.false_eq_true, if_true, if_false, List.length_map, beq_self_eq_true, uns, h0, h1, h6, h7, hv, la9, lb9, lss64, gtr64', q1, q2, e2, ib, load3, cb, add64', r1, r2, build27, happ, e3]
  exact ⟨_, _, rfl, by simp only [upd_at, Nat.reduceEqDiff, reduceIte, h0], by simp only [upd_at, Nat.reduceEqDiff, reduceIte, h1], by simp only [upd_at, Nat.reduceEqDiff, reduceIte], by simp only [upd_at, Nat.reduceEqDiff, reduceIte], by simp only [upd_at, Nat.reduceEqDiff, reduceIte]; exact hS', hle, hfr⟩
theorem radd_C (h0 : F 0 = a) (h1 : F 1 = b) (h6 : F 6 = .int .i64 (c : Nat)) (h7 : F 7 = .int .i64 (i : Nat)) (hi9 : i < 100000) (ha : NumA m a la) (hb : NumA m b lb) (hi : la.length ≤ i) (hj : lb.length ≤ i) (hs : c < 1000000) (hc : 0 < c) (hS : GN B m (F 5) L) (hB : B ≤ m.length) (hl : L.length ≤ 100000) :
    ∃ F' m', acodeN E self nf lpradd_0 (lst F 53) m = some (.normal, lst F' 53, m') ∧ F' 0 = a ∧ F' 1 = b ∧ F' 6 = .int .i64 (((c) / 256 : Nat) : Int) ∧ F' 7 = .int .i64 ((i + 1 : Nat) : Int) ∧ GN B m' (F' 5) (L ++ [(c) % 256]) ∧ m.length ≤ m'.length ∧ ∀ k, k < B → m'[k]? = m[k]? := by
  have q1 : decide (((i : Nat) : Int) < ((la.length : Nat) : Int)) = false := decide_eq_false (by omega)
  have q2 : decide (((i : Nat) : Int) < ((lb.length : Nat) : Int)) = false := decide_eq_false (by omega)
  have q3 : decide (((c : Nat) : Int) > 0) = true := decide_eq_true (by omega)
  have e3 := w1 (i := i) (by omega)
  have la9 := ha.1
  have lb9 := hb.1
  generalize hv : F 5 = v at hS
  obtain ⟨v', m', happ, hS', hle, hfr⟩ := appN (x := (c) % 256) hS hB hl
  have r1 := rem256 (c)
  have r2 := quo256i (s := c) (by omega)
  simp only [lpradd_0_eq, eradd_0, eradd_1, eradd_10, eradd_11, eradd_12, eradd_2, eradd_3, eradd_4, eradd_5, eradd_6, eradd_7, eradd_8, eradd_9, lradd_0, lradd_1, lradd_2, lradd_3, lradd_4, lradd_5, lradd_6, lradd_7, lradd_8, lradd_9, lradd_10, lradd_11, lradd_12, gradd_4_10, gradd_4_4, agd_none, gdAt, gdV_bool, gdV_undef, Tryd.f19, List.append_eq, List.cons_append, List.nil_append, apure_call1, apure_call2, apure_call3, bft, btf, acodeN, List.getElem?_toArray, List.getElem?_cons_zero, List.getElem?_cons_succ, aopsN, adrawT, cls, astep, aop, afloat, ev, nth_lst, get_lst, aput, setAt_lst, upd_at, init_zero, init_succ, init_nil, Nat.reduceLT, Nat.reduceEqDiff, reduceIte, len_N, abuiltin_app, Option.map_some, Option.map_none, orElse_some, apure_add, apure_eqlV, eqlVal_str, eqlVal_bool, eqlVal_ptr, eqlVal_slice, eqlVal_wide, eqlVal_int, allT, ↓aop_eqlV, apure_neq, List.map_cons, List.map_nil, List.all_cons, List.all_nil, lit2, lit1, lit0, List.isEmpty_nil, bls, Bool.false_eq_true, if_true, if_false, List.length_map, beq_self_eq_true, uns, h0, h1, h6, h7, hv, la9, lb9, lss64, gtr64', q1, q2, q3, add64', r1, r2, build27, happ, e3]
  exact ⟨_, _, rfl, by simp only [upd_at, Nat.reduceEqDiff, reduceIte, h0], by simp only [upd_at, Nat.reduceEqDiff, reduceIte, h1], by simp only [upd_at, Nat.reduceEqDiff, reduceIte], by simp only [upd_at, Nat.reduceEqDiff, reduceIte], by simp only [upd_at, Nat.reduceEqDiff, reduceIte]; exact hS', hle, hfr⟩
theorem radd_E (h0 : F 0 = a) (h1 : F 1 = b) (h6 : F 6 = .int .i64 0) (h7 : F 7 = .int .i64 (i : Nat)) (ha : NumA m a la) (hb : NumA m b lb) (hi : la.length ≤ i) (hj : lb.length ≤ i) :
    ∃ F', acodeN E self nf lpradd_0 (lst F 53) m = some (.exit 0, lst F' 53, m) ∧ F' 5 = F 5 := by
  have q1 : decide (((i : Nat) : Int) < ((la.length : Nat) : Int)) = false := decide_eq_false (by omega)
  have q2 : decide (((i : Nat) : Int) < ((lb.length : Nat) : Int)) = false := decide_eq_false (by omega)
  have q3 : decide ((0 : Int) > 0) = false := rfl
  have la9 := ha.1
  have lb9 := hb.1
  simp only [lpradd_0_eq, eradd_0, eradd_1, eradd_10, eradd_11, eradd_12, eradd_2, eradd_3, eradd_4, eradd_5, eradd_6, eradd_7, eradd_8, eradd_9, lradd_0, lradd_1, lradd_2, lradd_3, lradd_4, lradd_5, lradd_6, lradd_7, lradd_8, lradd_9, lradd_10, lradd_11, lradd_12, gradd_4_10, gradd_4_4, agd_none, gdAt, gdV_bool, gdV_undef, Tryd.f19, List.append_eq, List.cons_append, List.nil_append, apure_call1, apure_call2, apure_call3, bft, btf, acodeN, List.getElem?_toArray, List.getElem?_cons_zero, List.getElem?_cons_succ, aopsN, adrawT, cls, astep, aop, afloat, ev, nth_lst, get_lst, aput, setAt_lst, upd_at, init_zero, init_succ, init_nil, Nat.reduceLT, Nat.reduceEqDiff, reduceIte, len_N, abuiltin_app, Option.map_some, Option.map_none, orElse_some, apure_add, apure_eqlV, eqlVal_str, eqlVal_bool, eqlVal_ptr, eqlVal_slice, eqlVal_wide, eqlVal_int, allT, ↓aop_eqlV, apure_neq, List.map_cons, List.map_nil, List.all_cons, List.all_nil, lit2, lit1, lit0, List.isEmpty_nil, bls, Bool.false_eq_true, if_true, if_false, List.length_map, beq_self_eq_true, uns, h0, h1, h6, h7, la9, lb9, lss64, gtr64', q1, q2, q3]
  exact ⟨_, rfl, by simp only [upd_at, Nat.reduceEqDiff, reduceIte]⟩
end
end Go.Am.Seat
namespace Go.Am.Seat
open Go.Proofs Go.Am
theorem val_app1 (L : List Nat) (x : Nat) : val (L ++ [x]) = val L + 256 ^ L.length * x := by
  rw [val_append]
  simp [val]
theorem digit_step (A P s : Nat) : A + P * (s % 256) + P * 256 * (s / 256) = A + P * s := by
  have : P * s = P * (s % 256) + P * 256 * (s / 256) := by
    rw [Nat.mul_assoc, ← Nat.mul_add, Nat.add_comm, Nat.div_add_mod]
  omega
theorem mem_app1 {L : List Nat} {s : Nat} (h : ∀ x ∈ L, x < 256) : ∀ x ∈ L ++ [s % 256], x < 256 := by
  intro x hx
  rcases List.mem_append.1 hx with h1 | h1
  · exact h x h1
  · simp only [List.mem_singleton] at h1
    omega
theorem pow_two_lt {a b : Nat} {x y : Nat} (hx : x < 256 ^ a) (hy : y < 256 ^ b) : x + y < 256 ^ (a + b + 1) := by
  have h1 : 256 ^ a ≤ 256 ^ (a + b) := Nat.pow_le_pow_right (by omega) (by omega)
  have h2 : 256 ^ b ≤ 256 ^ (a + b) := Nat.pow_le_pow_right (by omega) (by omega)
  have h3 : 256 ^ (a + b + 1) = 256 ^ (a + b) * 256 := Nat.pow_succ ..
  omega
theorem radd_bodyL {self : Self} {nf : Nat} {m : Mem} {a b : Value} {la lb : List Nat} {x y : Nat} (ct : CTrim self) (ha : NumA m a la) (hb : NumA m b lb) (vx : val la = x) (vy : val lb = y) (dx : ∀ x ∈ la, x < 256) (dy : ∀ x ∈ lb, x < 256) (hlx : la.length ≤ 400) (hly : lb.length ≤ 400) (hnf : 1000 < nf) :
    ∃ v m1, abody E self nf 19 [a, b] m = some (v, m1) ∧ NumB m.length v m1 (x + y) := by
  rw [abody_eqF (by kernel_rfl) Tryd.func19 bodyradd (by kernel_rfl) (Nat.le_of_ble_eq_true rfl)]
  rw [show Tryd.f19.ntmps = 53 from rfl]
  have px := val_lt dx
  have py := val_lt dy
  rw [vx] at px
  rw [vy] at py
  have hloop := aloop_inv (body := acodeN E self nf lpradd_0) (N := la.length + lb.length + 1)
    (I := fun i T m' => ∃ G L c, T = lst G 53 ∧ m.length ≤ m'.length ∧ (∀ k, k < m.length → m'[k]? = m[k]?) ∧ G 0 = a ∧ G 1 = b ∧ G 6 = .int .i64 (c : Nat) ∧ G 7 = .int .i64 (i : Nat) ∧ GN m.length m' (G 5) L ∧ L.length = i ∧ (∀ x ∈ L, x < 256) ∧ c ≤ 1 ∧
      val L + 256 ^ i * c = val (la.take i) + val (lb.take i))
    (Q := fun e T m' => e = .exit 0 ∧ ∃ G L, T = lst G 53 ∧ GN m.length m' (G 5) L ∧ L.length ≤ 1000 ∧ (∀ x ∈ L, x < 256) ∧ val L = x + y) (fun i T m' hi hI => by
      obtain ⟨G, L, c, rfl, hle, hfr, g0, g1, g6, g7, gS, gl, gd, gc, gv⟩ := hI
      have ha' := ha.keep hfr
      have hb' := hb.keep hfr
      have hpow : 256 ^ (i + 1) = 256 ^ i * 256 := Nat.pow_succ ..
      by_cases h1 : i < la.length
      · have hx : la[i]? = some la[i] := by simp [h1]
        have hx9 := dx _ (List.mem_of_getElem? hx)
        have sx := val_step hx
        generalize la[i] = xi at *
        by_cases h2 : i < lb.length
        · have hy : lb[i]? = some lb[i] := by simp [h2]
          have hy9 := dy _ (List.mem_of_getElem? hy)
          have sy := val_step hy
          generalize lb[i] = yi at *
          left
          obtain ⟨F', m2, hr, f0, f1, f6, f7, fS, fle, ffr⟩ := radd_AB (self := self) (nf := nf) g0 g1 g6 g7 (by omega) ha' hb' hx hy (by omega) gS hle (by omega)
          refine ⟨_, _, hr, by omega, F', _, _, rfl, by omega, fun k hk => by rw [ffr k hk, hfr k hk], f0, f1, f6, f7, fS, by simp [gl], mem_app1 gd, by omega, ?_⟩
          rw [val_app1, gl, hpow, digit_step, sx, sy, Nat.mul_add, Nat.mul_add]
          omega
        · have sy := val_same (l := lb) (i := i) (by omega)
          left
          obtain ⟨F', m2, hr, f0, f1, f6, f7, fS, fle, ffr⟩ := radd_A (self := self) (nf := nf) g0 g1 g6 g7 (by omega) ha' hb' hx (by omega) (by omega) gS hle (by omega)
          refine ⟨_, _, hr, by omega, F', _, _, rfl, by omega, fun k hk => by rw [ffr k hk, hfr k hk], f0, f1, f6, f7, fS, by simp [gl], mem_app1 gd, by omega, ?_⟩
          rw [val_app1, gl, hpow, digit_step, sx, sy, Nat.mul_add]
          omega
      · have sx := val_same (l := la) (i := i) (by omega)
        by_cases h2 : i < lb.length
        · have hy : lb[i]? = some lb[i] := by simp [h2]
          have hy9 := dy _ (List.mem_of_getElem? hy)
          have sy := val_step hy
          generalize lb[i] = yi at *
          left
          obtain ⟨F', m2, hr, f0, f1, f6, f7, fS, fle, ffr⟩ := radd_B (self := self) (nf := nf) g0 g1 g6 g7 (by omega) ha' hb' (by omega) hy (by omega) gS hle (by omega)
          refine ⟨_, _, hr, by omega, F', _, _, rfl, by omega, fun k hk => by rw [ffr k hk, hfr k hk], f0, f1, f6, f7, fS, by simp [gl], mem_app1 gd, by omega, ?_⟩
          rw [val_app1, gl, hpow, digit_step, sx, sy, Nat.mul_add]
          omega
        · have sy := val_same (l := lb) (i := i) (by omega)
          have tx : val (la.take i) = x := by rw [List.take_of_length_le (by omega)]; exact vx
          have ty : val (lb.take i) = y := by rw [List.take_of_length_le (by omega)]; exact vy
          by_cases h3 : 0 < c
          · left
            have hin : i < la.length + lb.length + 1 := by
              by_cases hin : i < la.length + lb.length + 1
              · exact hin
              · exfalso
                have h9 := pow_two_lt px py
                have h10 : i = la.length + lb.length + 1 := by omega
                have h11 : c = 1 := by omega
                rw [← h10] at h9
                rw [h11, Nat.mul_one, tx, ty] at gv
                omega
            obtain ⟨F', m2, hr, f0, f1, f6, f7, fS, fle, ffr⟩ := radd_C (self := self) (nf := nf) g0 g1 g6 g7 (by omega) ha' hb' (by omega) (by omega) (by omega) h3 gS hle (by omega)
            refine ⟨_, _, hr, hin, F', _, _, rfl, by omega, fun k hk => by rw [ffr k hk, hfr k hk], f0, f1, f6, f7, fS, by simp [gl], mem_app1 gd, by omega, ?_⟩
            rw [val_app1, gl, hpow, digit_step, sx, sy]
            omega
          · right
            have hc0 : c = 0 := by omega
            subst hc0
            obtain ⟨F', hr, f5⟩ := radd_E (self := self) (nf := nf) (m := m') g0 g1 g6 g7 ha' hb' (by omega) (by omega)
            refine ⟨_, _, _, hr, by simp, rfl, F', L, rfl, by rw [f5]; exact gS, by omega, gd, ?_⟩
            rw [tx, ty] at gv
            omega)
  obtain ⟨e, T', m', hr, rfl, G, L, rfl, gS, gl, gd, gv⟩ := hloop (la.length + lb.length + 1) 0 nf (lst (upd (upd (upd (upd (init [a, b]) 4 (.slice none 0 0)) 5 (.slice none 0 0)) 6 (.int .i64 0)) 7 (.int .i64 0)) 53) m (by omega) (by omega) ⟨_, [], 0, rfl, Nat.le_refl _, fun _ _ => rfl, rfl, rfl, rfl, rfl, .inl ⟨rfl, rfl⟩, rfl, (fun x hx => by cases hx), by omega, by simp [val]⟩
  generalize hv : G 5 = v at gS
  obtain ⟨v', ht, hB⟩ := ct m.length m' v L (x + y) gS gl gd gv
  simp only [eradd_0, eradd_1, eradd_10, eradd_11, eradd_12, eradd_2, eradd_3, eradd_4, eradd_5, eradd_6, eradd_7, eradd_8, eradd_9, lradd_0, lradd_1, lradd_2, lradd_3, lradd_4, lradd_5, lradd_6, lradd_7, lradd_8, lradd_9, lradd_10, lradd_11, lradd_12, gradd_4_10, gradd_4_4, agd_none, gdAt, gdV_bool, gdV_undef, Tryd.f19, List.append_eq, List.cons_append, List.nil_append, apure_call1, apure_call2, apure_call3, bft, btf, acodeN, List.getElem?_toArray, List.getElem?_cons_zero, List.getElem?_cons_succ, aopsN, adrawT, cls, astep, aop, afloat, ev, nth_lst, get_lst, aput, setAt_lst, upd_at, init_zero, init_succ, init_nil, Nat.reduceLT, Nat.reduceEqDiff, reduceIte, len_N, abuiltin_app, Option.map_some, Option.map_none, orElse_some, apure_add, apure_eqlV, eqlVal_str, eqlVal_bool, eqlVal_ptr, eqlVal_slice, eqlVal_wide, eqlVal_int, allT, ↓aop_eqlV, apure_neq, List.map_cons, List.map_nil, List.all_cons, List.all_nil, lit2, lit1, lit0, List.isEmpty_nil, bls, Bool.false_eq_true, if_true, if_false, List.length_map, beq_self_eq_true, uns, hr, hv, calltrim, ht, finish, ares, aresL, ares1]
  exact ⟨_, _, rfl, hB⟩
theorem radd_body {self : Self} {nf : Nat} {m : Mem} {a b : Value} {x y : Nat} (ct : CTrim self) (ha : NumA m a (dig x)) (hb : NumA m b (dig y)) (hlx : (dig x).length ≤ 400) (hly : (dig y).length ≤ 400) (hnf : 1000 < nf) :
    ∃ v m1, abody E self nf 19 [a, b] m = some (v, m1) ∧ NumB m.length v m1 (x + y) :=
  radd_bodyL ct ha hb (val_dig x) (val_dig y) (dig_lt x) (dig_lt y) hlx hly hnf
def CAdd (self : Self) : Prop := ∀ (m : Mem) (a b : Value) (x y : Nat), NumA m a (dig x) → NumA m b (dig y) → (dig x).length ≤ 400 → (dig y).length ≤ 400 → ∃ v m', ainv E self 19 [a, b] m = some (v, m') ∧ NumR m v m' (x + y)
theorem cadd {R : Nat → Self} {K : List Fact} (hR : Runs R K) {n : Nat} (hK : hasF K 19 = false) (hK' : hasF K 16 = false) (hn : 1000 ≤ n) : CAdd (R (n + 2)) := by
  intro m a b x y ha hb hlx hly
  refine num2_call (by kernel_rfl) (by kernel_rfl) ha hb fun M' ha hb => ?_
  obtain ⟨v, m1, h1, h2⟩ := radd_body (self := (R (n + 1))) (nf := n + 2) (ctrim hR hK' hn) ha hb hlx hly (by omega)
  exact ⟨v, m1, hR.b hK h1, h2⟩
end Go.Am.Seat
namespace Go.Am.Seat
open Go.Proofs Go.Am
noncomputable def rrsml_0 : Array Oper := match Tryd.f21.body with
  | some (.seq (.region _ o _) _) => o
  | _ => #[]
noncomputable def lrsml_0 : List Oper := match Tryd.f21.body with
  | some (.seq (.region _ o _) _) => o.toList
  | _ => []
theorem ersml_0 : rrsml_0.toList = lrsml_0 := rfl
noncomputable def rrsml_1 : Array Oper := match Tryd.f21.body with
  | some (.seq _ (.seq (.region _ o _) _)) => o
  | _ => #[]
noncomputable def lrsml_1 : List Oper := match Tryd.f21.body with
  | some (.seq _ (.seq (.region _ o _) _)) => o.toList
  | _ => []
theorem ersml_1 : rrsml_1.toList = lrsml_1 := rfl
noncomputable def lprsml_0 : Code := match Tryd.f21.body with
  | some (.seq _ (.seq _ (.seq (.block _ (.loop c)) _))) => c
  | _ => .skip
noncomputable def rrsml_2 : Array Oper := match Tryd.f21.body with
  | some (.seq _ (.seq _ (.seq (.block _ (.loop (.seq (.seq (.region _ o _) _) _))) _))) => o
  | _ => #[]
noncomputable def lrsml_2 : List Oper := match Tryd.f21.body with
  | some (.seq _ (.seq _ (.seq (.block _ (.loop (.seq (.seq (.region _ o _) _) _))) _))) => o.toList
  | _ => []
theorem ersml_2 : rrsml_2.toList = lrsml_2 := rfl
noncomputable def rrsml_3 : Array Oper := match Tryd.f21.body with
  | some (.seq _ (.seq _ (.seq (.block _ (.loop (.seq _ (.block _ (.seq (.region _ o _) _))))) _))) => o
  | _ => #[]
noncomputable def lrsml_3 : List Oper := match Tryd.f21.body with
  | some (.seq _ (.seq _ (.seq (.block _ (.loop (.seq _ (.block _ (.seq (.region _ o _) _))))) _))) => o.toList
  | _ => []
theorem ersml_3 : rrsml_3.toList = lrsml_3 := rfl
noncomputable def rrsml_4 : Array Oper := match Tryd.f21.body with
  | some (.seq _ (.seq _ (.seq (.block _ (.loop (.seq _ (.block _ (.seq _ (.region _ o _)))))) _))) => o
  | _ => #[]
noncomputable def lrsml_4 : List Oper := match Tryd.f21.body with
  | some (.seq _ (.seq _ (.seq (.block _ (.loop (.seq _ (.block _ (.seq _ (.region _ o _)))))) _))) => o.toList
  | _ => []
theorem ersml_4 : rrsml_4.toList = lrsml_4 := rfl
theorem lprsml_0_eq : lprsml_0 = (.seq (.seq (.region 2 rrsml_2 false) (.cond (.tmp 5) .skip (.exit 0))) (.block 1 (.seq (.region 3 rrsml_3 false) (.region 4 rrsml_4 false)))) := rfl
noncomputable def rrsml_5 : Array Oper := match Tryd.f21.body with
  | some (.seq _ (.seq _ (.seq _ (.seq (.region _ o _) _)))) => o
  | _ => #[]
noncomputable def lrsml_5 : List Oper := match Tryd.f21.body with
  | some (.seq _ (.seq _ (.seq _ (.seq (.region _ o _) _)))) => o.toList
  | _ => []
theorem ersml_5 : rrsml_5.toList = lrsml_5 := rfl
theorem bodyrsml : Tryd.f21.body = some (.seq (.region 0 rrsml_0 false) (.seq (.region 1 rrsml_1 false) (.seq (.block 0 (.loop lprsml_0)) (.seq (.region 5 rrsml_5 false) .ret)))) := rfl
-- ntmps 15
theorem gtrU (a b : Int) : abin .gtr .u64 a .u64 b = some (.bool (decide (a > b))) := by kernel_rfl
theorem remU (s : Nat) : abin .rem .u64 ((s : Nat) : Int) .u64 256 = some (.int .u64 ((s % 256 : Nat) : Int)) := by
  have h : ∀ k : Int, abin .rem .u64 k .u64 256 = some (.int .u64 (k.tmod 256)) := fun k => by kernel_rfl
  rw [h, Int.tmod_eq_emod_of_nonneg (by omega)]
  congr 2
theorem quoU {s : Nat} (hs : s < 18446744073709551616) : abin .quo .u64 ((s : Nat) : Int) .u64 256 = some (.int .u64 ((s / 256 : Nat) : Int)) := by
  have h : ∀ k : Int, abin .quo .u64 k .u64 256 = some (.int .u64 (wrapF .u64 (k.tdiv 256))) := fun k => by kernel_rfl
  rw [h, Int.tdiv_eq_ediv_of_nonneg (by omega)]
  have : wrapF .u64 (((s : Nat) : Int) / 256) = ((s / 256 : Nat) : Int) := by
    simp only [wrapF]
    omega
  rw [this]
theorem convU3 {x : Nat} (h : x < 256) : aconv E.P 22 3 (.int .u64 ((x : Nat) : Int)) = some (.int .i64 ((x : Nat) : Int)) := by
  have h2 : ∀ k : Int, aconv E.P 22 3 (.int .u64 k) = some (.int .i64 (wrapF .i64 k)) := fun k => by kernel_rfl
  rw [h2, wrap_i64 (by omega) (by omega)]
section
variable {self : Self} {nf B : Nat} {m : Mem} {F : Nat → Value} {L : List Nat} {x : Nat}
theorem rsml_iter (h0 : F 0 = .int .u64 (x : Nat)) (hx : 0 < x) (hx9 : x < 18446744073709551616) (hS : GN B m (F 3) L) (hB : B ≤ m.length) (hl : L.length ≤ 100000) :
    ∃ F' m', acodeN E self nf lprsml_0 (lst F 15) m = some (.normal, lst F' 15, m') ∧ F' 0 = .int .u64 ((x / 256 : Nat) : Int) ∧ GN B m' (F' 3) (L ++ [x % 256]) ∧ m.length ≤ m'.length := by
  have q : decide (((x : Nat) : Int) > 0) = true := decide_eq_true (by omega)
  generalize hv : F 3 = v at hS
  obtain ⟨v', m', happ, hS', hle, hfr⟩ := appN (x := x % 256) hS hB hl
  simp only [lprsml_0_eq, ersml_0, ersml_1, ersml_2, ersml_3, ersml_4, ersml_5, lrsml_0, lrsml_1, lrsml_2, lrsml_3, lrsml_4, lrsml_5, agd_none, gdAt, gdV_bool, gdV_undef, Tryd.f21, List.append_eq, List.cons_append, List.nil_append, apure_call1, apure_call2, apure_call3, bft, btf, acodeN, List.getElem?_toArray, List.getElem?_cons_zero, List.getElem?_cons_succ, aopsN, adrawT, cls, astep, aop, afloat, ev, nth_lst, get_lst, aput, setAt_lst, upd_at, init_zero, init_succ, init_nil, Nat.reduceLT, Nat.reduceEqDiff, reduceIte, len_N, abuiltin_app, Option.map_some, Option.map_none, orElse_some, apure_add, apure_eqlV, eqlVal_str, eqlVal_bool, eqlVal_ptr, eqlVal_slice, eqlVal_wide, eqlVal_int, allT, ↓aop_eqlV, apure_neq, List.map_cons, List.map_nil, List.all_cons, List.all_nil, lit2, lit1, lit0, List.isEmpty_nil, bls, Bool.false_eq_true, if_true, if_false, List.length_map, beq_self_eq_true, uns, h0, hv, gtrU, q, remU, quoU hx9, convU3 (Nat.mod_lt x (by omega : 256 > 0)), build27, happ]
  exact ⟨_, _, rfl, by simp only [upd_at, Nat.reduceEqDiff, reduceIte], by simp only [upd_at, Nat.reduceEqDiff, reduceIte]; exact hS', hle⟩
theorem rsml_last (h0 : F 0 = .int .u64 0) : ∃ F', acodeN E self nf lprsml_0 (lst F 15) m = some (.exit 0, lst F' 15, m) ∧ F' 3 = F 3 := by
  have q : decide ((0 : Int) > 0) = false := rfl
  simp only [lprsml_0_eq, ersml_0, ersml_1, ersml_2, ersml_3, ersml_4, ersml_5, lrsml_0, lrsml_1, lrsml_2, lrsml_3, lrsml_4, lrsml_5, agd_none, gdAt, gdV_bool, gdV_undef, Tryd.f21, List.append_eq, List.cons_append, List.nil_append, apure_call1, apure_call2, apure_call3, bft, btf, acodeN, List.getElem?_toArray, List.getElem?_cons_zero, List.getElem?_cons_succ, aopsN, adrawT, cls, astep, aop, afloat, ev, nth_lst, get_lst, aput, setAt_lst, upd_at, init_zero, init_succ, init_nil, Nat.reduceLT, Nat.reduceEqDiff, reduceIte, len_N, abuiltin_app, Option.map_some, Option.map_none, orElse_some, apure_add, apure_eqlV, eqlVal_str, eqlVal_bool, eqlVal_ptr, eqlVal_slice, eqlVal_wide, eqlVal_int, allT, ↓aop_eqlV, apure_neq, List.map_cons, List.map_nil, List.all_cons, List.all_nil, lit2, lit1, lit0, List.isEmpty_nil, bls, Bool.false_eq_true, if_true, if_false, List.length_map, beq_self_eq_true, uns, h0, gtrU, q]
  exact ⟨_, rfl, by simp only [upd_at, Nat.reduceEqDiff, reduceIte]⟩
end
theorem rsml_body {self : Self} {nf : Nat} {m : Mem} {x : Nat} (hx : x < 18446744073709551616) (hnf : 1000 < nf) :
    ∃ v m1, abody E self nf 21 [.int .u64 (x : Nat)] m = some (v, m1) ∧ NumB m.length v m1 x := by
  rw [abody_eqF (by kernel_rfl) Tryd.func21 bodyrsml (by kernel_rfl) (Nat.le_of_ble_eq_true rfl)]
  rw [show Tryd.f21.ntmps = 15 from rfl]
  have hloop := aloop_inv (body := acodeN E self nf lprsml_0) (N := 8)
    (I := fun i T m' => ∃ G L r, T = lst G 15 ∧ m.length ≤ m'.length ∧ G 0 = .int .u64 (r : Nat) ∧ GN m.length m' (G 3) L ∧ L.length = i ∧ (∀ x ∈ L, x < 256) ∧ val L + 256 ^ i * r = x ∧ r < 256 ^ (8 - i) ∧ (i = 0 ∨ r ≠ 0 ∨ ∃ y, 0 < y ∧ L[i - 1]? = some y))
    (Q := fun e T m' => e = .exit 0 ∧ ∃ G L, T = lst G 15 ∧ GN m.length m' (G 3) L ∧ L = dig x) (fun i T m' hi hI => by
      obtain ⟨G, L, r, rfl, hle, g0, gS, gl, gd, gv, gr, gt⟩ := hI
      by_cases h : r = 0
      · right
        subst h
        obtain ⟨F', hr, f3⟩ := rsml_last (self := self) (nf := nf) (m := m') g0
        refine ⟨_, _, _, hr, by simp, rfl, F', L, rfl, by rw [f3]; exact gS, ?_⟩
        rw [Nat.mul_zero, Nat.add_zero] at gv
        rw [← gv]
        refine (dig_val gd ?_).symm
        rcases gt with gt | gt | ⟨y, h1, h2⟩
        · left; exact List.eq_nil_of_length_eq_zero (by omega)
        · exact absurd rfl gt
        · right; exact ⟨y, h1, by rw [gl]; exact h2⟩
      · left
        have hi8 : i < 8 := by
          by_cases hi8 : i < 8
          · exact hi8
          · exfalso
            have : 8 - i = 0 := by omega
            rw [this] at gr
            simp at gr
            exact h gr
        have h9 : 256 ^ (8 - i) ≤ 256 ^ 8 := Nat.pow_le_pow_right (by omega) (by omega)
        have h10 : (256 : Nat) ^ 8 = 18446744073709551616 := rfl
        obtain ⟨F', m2, hr, f0, fS, fle⟩ := rsml_iter (self := self) (nf := nf) g0 (by omega) (by omega) gS hle (by omega)
        refine ⟨_, _, hr, hi8, F', _, _, rfl, by omega, f0, fS, by simp [gl], mem_app1 gd, ?_, ?_, .inr ?_⟩
        · rw [val_app1, gl, Nat.pow_succ, digit_step]
          exact gv
        · have : 256 ^ (8 - i) = 256 ^ (8 - (i + 1)) * 256 := by rw [← Nat.pow_succ]; congr 1; omega
          omega
        · by_cases hq : r / 256 = 0
          · right
            refine ⟨r % 256, by omega, ?_⟩
            rw [Nat.add_sub_cancel, List.getElem?_append_right (by omega), gl]
            simp
          · exact .inl hq)
  obtain ⟨e, T', m', hr, rfl, G, L, rfl, gS, gL⟩ := hloop 8 0 nf (lst (upd (upd (init [.int .u64 (x : Nat)]) 2 (.slice none 0 0)) 3 (.slice none 0 0)) 15) m (by omega) (by omega) ⟨_, [], x, rfl, Nat.le_refl _, rfl, .inl ⟨rfl, rfl⟩, rfl, (fun x hx => by cases hx), by simp [val], by simpa using hx, .inl rfl⟩
  generalize hv : G 3 = v at gS
  simp only [ersml_0, ersml_1, ersml_2, ersml_3, ersml_4, ersml_5, lrsml_0, lrsml_1, lrsml_2, lrsml_3, lrsml_4, lrsml_5, agd_none, gdAt, gdV_bool, gdV_undef, Tryd.f21, List.append_eq, List.cons_append, List.nil_append, apure_call1, apure_call2, apure_call3, bft, btf, acodeN, List.getElem?_toArray, List.getElem?_cons_zero, List.getElem?_cons_succ, aopsN, adrawT, cls, astep, aop, afloat, ev, nth_lst, get_lst, aput, setAt_lst, upd_at, init_zero, init_succ, init_nil, Nat.reduceLT, Nat.reduceEqDiff, reduceIte, len_N, abuiltin_app, Option.map_some, Option.map_none, orElse_some, apure_add, apure_eqlV, eqlVal_str, eqlVal_bool, eqlVal_ptr, eqlVal_slice, eqlVal_wide, eqlVal_int, allT, ↓aop_eqlV, apure_neq, List.map_cons, List.map_nil, List.all_cons, List.all_nil, lit2, lit1, lit0, List.isEmpty_nil, bls, Bool.false_eq_true, if_true, if_false, List.length_map, beq_self_eq_true, uns, hr, hv, finish, ares, aresL, ares1]
  refine ⟨_, _, rfl, ?_⟩
  rcases gS with ⟨h1, rfl⟩ | ⟨b, h1, rfl, h2, h3⟩
  · left
    refine ⟨rfl, ?_⟩
    rw [← val_dig x, ← gL, h1]
    rfl
  · exact .inr ⟨L, L.length, b, false, Nat.le_refl _, by rw [List.take_length, gL], h1, rfl, h2, h3⟩
def CSmall (self : Self) : Prop := ∀ (m : Mem) (x : Nat), x < 18446744073709551616 → ∃ v m', ainv E self 21 [.int .u64 (x : Nat)] m = some (v, m') ∧ NumR m v m' x
theorem csmall {R : Nat → Self} {K : List Fact} (hR : Runs R K) {n : Nat} (hK : hasF K 21 = false) (hn : 1000 ≤ n) : CSmall (R (n + 1)) := by
  intro m x hx
  obtain ⟨v, m1, h1, h2⟩ := rsml_body (self := (R n)) (nf := n + 1) (m := (m.take E.G).map onlyTab) hx (by omega)
  unfold ainv
  rw [show ([Value.int .u64 (x : Nat)].all lit2) = true from rfl, show E.fast 21 = none from by kernel_rfl]
  simp only [if_true, hR.b hK h1]
  exact h2.coll
end Go.Am.Seat
