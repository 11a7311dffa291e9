/-
  Counted on the abstract machine: all rounds (own work).
-/
import Derived.Test.YtmopnogcdjehmaaDoorAmX
set_option linter.unusedSimpArgs false
set_option linter.unusedVariables false
namespace Go.Am.Seat
open Go.Proofs Go.Am
set_option maxRecDepth 100000

/-- One part with its length. -/
def counted1 (s : ByteArray) : List Int := [(((s.data.toList.length : Nat) : Int) % 65536).fdiv 256 % 256, ((s.data.toList.length : Nat) : Int) % 65536 % 256] ++ bytesI s

def Shape (pv : Value) (q : Nat) (L i : Int) (T : List Value) : Prop := ∃ t1 t2 t4 t5 t6 t10 t11 t12 t13 t14 t15 t16 t17 t18 t19 t20 t21 t22 t23 t24 t25 t26 : Value, T = [pv, t1, t2, .pointer (some ⟨q, 0, none⟩), t4, t5, t6, pv, .int .i64 L, .int .i64 i, t10, t11, t12, t13, t14, t15, t16, t17, t18, t19, t20, t21, t22, t23, t24, t25, t26]

theorem idx91 (p L i : Nat) (h : i < L) : aindexAddr E.P 96 (.slice (some ⟨p, 0, none⟩) L L) (.int .i64 (i : Nat)) = some (.pointer (some ⟨p, i, none⟩)) := by
  have h9 : (E.P.info? 9).map (·.size) = some 1 := by kernel_rfl
  obtain ⟨e, h1, h2⟩ := Option.map_eq_some_iff.1 h9
  unfold aindexAddr
  simp only [show E.P.underlying 96 = some (.slice 9) from Tryd.underlying96, h1]
  rw [if_pos (by omega), h2]
  simp

theorem wrap64 (i : Nat) (h : i < 1000000) : wrapF .i64 ((i : Int) + 1) = ((i + 1 : Nat) : Int) := by
  simp only [wrapF]
  rw [if_neg (by omega)]
  omega

section
variable {K : List Fact} {n nf p q : Nat} {m : Mem}

theorem round40 (h79 : hasF K 91 = false) (h63 : hasF K 68 = false) (h65 : hasF K 70 = false) {T : List Value} {L i : Nat} {l : List Int} {s : ByteArray} (hT : Shape (.slice (some ⟨p, 0, none⟩) L L) q L i T) (hi : i < L) (hL : L < 1000000)
    (hs : cellAt m p i = some (.string s)) (hb : Buf m q l) (hl : l.length ≤ 900000) (hsl : s.data.toList.length ≤ 2000) :
    ∃ T' m', acodeN E (runK E mem2 K (n + 2)) nf loop40 T m = some (.normal, T', m') ∧ Shape (.slice (some ⟨p, 0, none⟩) L L) q L ((i + 1 : Nat) : Int) T' ∧ Buf m' q (l ++ counted1 s) ∧ Keeps m q m' := by
  obtain ⟨t1, t2, t4, t5, t6, t10, t11, t12, t13, t14, t15, t16, t17, t18, t19, t20, t21, t22, t23, t24, t25, t26, rfl⟩ := hT
  obtain ⟨m1, h1, b1, k1⟩ := writeByte (n := n) h79 h63 ((((s.data.toList.length : Nat) : Int) % 65536).fdiv 256 % 256) hb (by omega)
  obtain ⟨m2, h2, b2, k2⟩ := writeByte (n := n) h79 h63 (((s.data.toList.length : Nat) : Int) % 65536 % 256) b1 (by simp; omega)
  obtain ⟨v, m3, h3, b3, k3⟩ := writeString (n := n) h79 h65 s b2 (by simp) (by simp; omega) (by omega)
  obtain ⟨u5, u6, u10, u11, u12, u13, u14, u15, u16, u17, u18, u19, u20, u21, u22, u23, u24, u25, hr⟩ := iter40 (nf := nf) (t1 := t1) (t2 := t2) (t4 := t4) (t5 := t5) (t6 := t6) (t10 := t10) (t11 := t11) (t12 := t12) (t13 := t13) (t14 := t14) (t15 := t15) (t16 := t16) (t17 := t17) (t18 := t18) (t19 := t19) (t20 := t20) (t21 := t21) (t22 := t22) (t23 := t23) (t24 := t24) (t25 := t25) (t26 := t26) (L := (L : Int)) (i := (i : Int)) (pv := .slice (some ⟨p, 0, none⟩) L L) (by simp; omega) (idx91 p L i hi) hs h1 h2 h3
  refine ⟨_, m3, hr, ⟨t1, t2, t4, u5, u6, u10, u11, u12, u13, u14, u15, u16, u17, u18, u19, u20, u21, u22, u23, u24, u25, t26, by rw [wrap64 i (by omega)]⟩, ?_, (k1.trans k2).trans k3⟩
  have : l ++ counted1 s = l ++ [(((s.data.toList.length : Nat) : Int) % 65536).fdiv 256 % 256] ++ [((s.data.toList.length : Nat) : Int) % 65536 % 256] ++ bytesI s := by simp [counted1]
  rw [this]
  exact b3

theorem rounds40 (h79 : hasF K 91 = false) (h63 : hasF K 68 = false) (h65 : hasF K 70 = false) {ro : Bool} {ss : List ByteArray} (hL : ss.length < 100) (hss : ∀ s, s ∈ ss → s.data.toList.length ≤ 2000) (hpq : p < q) :
    ∀ (rest : List ByteArray) (i f : Nat) (T : List Value) (m : Mem) (l : List Int), ss.drop i = rest → i ≤ ss.length → rest.length < f → Shape (.slice (some ⟨p, 0, none⟩) ss.length ss.length) q ss.length i T → m[p]? = some (.row ro 9 (ss.map .string)) → Buf m q l → l.length ≤ i * 3000 →
    ∃ T' m' i', aloop (acodeN E (runK E mem2 K (n + 2)) nf loop40) f T m = some (.exit 0, T', m') ∧ Shape (.slice (some ⟨p, 0, none⟩) ss.length ss.length) q ss.length i' T' ∧ Buf m' q (l ++ rest.flatMap counted1)
  | [], i, f, T, m, l, hd, hi, hf, hT, hp, hb, hl => by
    obtain ⟨f, rfl⟩ : ∃ g, f = g + 1 := ⟨f - 1, by simp at hf; omega⟩
    have hil : i = ss.length := by
      have := congrArg List.length hd
      simp at this
      omega
    subst hil
    obtain ⟨t1, t2, t4, t5, t6, t10, t11, t12, t13, t14, t15, t16, t17, t18, t19, t20, t21, t22, t23, t24, t25, t26, rfl⟩ := hT
    rw [aloop, last40 (by simp)]
    exact ⟨_, m, _, rfl, ⟨t1, t2, t4, t5, t6, .bool false, t11, t12, t13, t14, t15, t16, t17, t18, t19, t20, t21, t22, t23, t24, t25, t26, rfl⟩, by simpa using hb⟩
  | s :: rest, i, f, T, m, l, hd, hi, hf, hT, hp, hb, hl => by
    obtain ⟨f, rfl⟩ : ∃ g, f = g + 1 := ⟨f - 1, by simp at hf; omega⟩
    have hil : i < ss.length := by
      have := congrArg List.length hd
      simp at this
      omega
    have hsi : ss[i]? = some s := by
      have := congrArg (·[0]?) hd
      simpa using this
    have hmem : s ∈ ss := List.mem_of_getElem? hsi
    have hc : cellAt m p i = some (.string s) := by
      rw [cellAt_row hp i, List.getElem?_map, hsi]
      rfl
    obtain ⟨T1, m1, h1, hT1, hb1, hk1⟩ := round40 (n := n) (nf := nf) h79 h63 h65 hT hil (by omega) hc hb (by omega) (hss s hmem)
    have hcl : (counted1 s).length ≤ 2002 := by
      have := hss s hmem
      simp [counted1, bytesI] at this ⊢
      omega
    obtain ⟨T2, m2, i2, h2, hT2, hb2⟩ := rounds40 h79 h63 h65 hL hss hpq rest (i + 1) f T1 m1 (l ++ counted1 s) (by rw [← List.drop_drop, hd]; rfl) (by omega) (by simp at hf; omega) hT1 (by rw [hk1 p hpq]; exact hp) hb1 (by simp; omega)
    refine ⟨T2, m2, i2, ?_, hT2, by simpa [List.append_assoc] using hb2⟩
    rw [aloop, h1]
    exact h2

noncomputable def a40 : Array Oper := match Tryd.f42.body with
  | some (.seq (.region _ o _) _) => o
  | _ => #[]
noncomputable def b40 : Array Oper := match Tryd.f42.body with
  | some (.seq _ (.seq (.region _ o _) _)) => o
  | _ => #[]
noncomputable def c40 : Array Oper := match Tryd.f42.body with
  | some (.seq _ (.seq _ (.seq (.seq (.region _ o _) _) _))) => o
  | _ => #[]
noncomputable def d40 : Array Oper := match Tryd.f42.body with
  | some (.seq _ (.seq _ (.seq _ (.seq (.region _ o _) _)))) => o
  | _ => #[]
theorem body40 : Tryd.f42.body = some (.seq (.region 0 a40 false) (.seq (.region 1 b40 false) (.seq (.seq (.region 2 c40 false) (.block 0 (.loop loop40))) (.seq (.region 10 d40 false) .ret)))) := rfl

theorem alloc86 (m : Mem) : aalloc E.P 91 m = some (.pointer (some ⟨m.length, 0, none⟩), m ++ [.row false 91 [.pointer none, .slice none 0 0]]) := by kernel_rfl

theorem counted_run (h79 : hasF K 91 = false) (h63 : hasF K 68 = false) (h65 : hasF K 70 = false) (h64 : hasF K 69 = false) (h40 : hasF K 42 = false) {ro : Bool} {ss : List ByteArray} (hne : ss ≠ []) (hL : ss.length < 100) (hn : ss.length ≤ n) (hss : ∀ s, s ∈ ss → s.data.toList.length ≤ 2000)
    (hp : m[p]? = some (.row ro 9 (ss.map .string))) :
    ∃ m', runK E mem2 K (n + 3) 42 [.slice (some ⟨p, 0, none⟩) ss.length ss.length] m = some (.string ⟨((ss.flatMap counted1).map fun n => UInt8.ofNat n.toNat).toArray⟩, m') := by
  rw [runK_other h40, abody_eqN (by kernel_rfl) Tryd.func42 body40 (by kernel_rfl)]
  rw [show ([Value.slice (some ⟨p, 0, none⟩) ss.length ss.length] ++ List.replicate (Tryd.f42.ntmps - [Value.slice (some ⟨p, 0, none⟩) ss.length ss.length].length) undef) = [.slice (some ⟨p, 0, none⟩) ss.length ss.length, undef, undef, undef, undef, undef, undef, undef, undef, undef, undef, undef, undef, undef, undef, undef, undef, undef, undef, undef, undef, undef, undef, undef, undef, undef, undef] from rfl]
  have hpm := lt_of_at hp
  have hp2 : (m ++ [Blk.row false 91 [.pointer none, .slice none 0 0]])[p]? = some (.row ro 9 (ss.map .string)) := by rw [List.getElem?_append_left hpm]; exact hp
  have hb : Buf (m ++ [Blk.row false 91 [.pointer none, .slice none 0 0]]) m.length [] := .inl ⟨rfl, by simp⟩
  obtain ⟨T2, m2, i2, h2, ⟨t1, t2, t4, t5, t6, t10, t11, t12, t13, t14, t15, t16, t17, t18, t19, t20, t21, t22, t23, t24, t25, t26, rfl⟩, hb2⟩ :=
    rounds40 (n := n) (nf := n + 3) h79 h63 h65 hL hss hpm ss 0 (n + 3) [.slice (some ⟨p, 0, none⟩) ss.length ss.length, undef, .string ⟨#[]⟩, .pointer (some ⟨m.length, 0, none⟩), undef, undef, undef, .slice (some ⟨p, 0, none⟩) ss.length ss.length, .int .i64 (ss.length : Nat), .int .i64 ((0 : Nat) : Int), undef, undef, undef, undef, undef, undef, undef, undef, undef, undef, undef, undef, undef, undef, undef, undef, undef]
      (m ++ [.row false 91 [.pointer none, .slice none 0 0]]) [] rfl (by omega) (by omega) ⟨_, _, _, _, _, _, _, _, _, _, _, _, _, _, _, _, _, _, _, _, _, _, rfl⟩ hp2 hb (by simp)
  have hfl : (ss.flatMap counted1) ≠ [] := by
    cases ss with
    | nil => exact absurd rfl hne
    | cons s ss => simp [counted1]
  have hlen : (ss.flatMap counted1).length ≤ 10000000 := by
    have hgen : ∀ (l : List ByteArray), (∀ s, s ∈ l → s.data.toList.length ≤ 2000) → (l.flatMap counted1).length ≤ l.length * 2002 := by
      intro l
      induction l with
      | nil => intro _; simp
      | cons a l ih =>
        intro h
        have h1 := h a (by simp)
        have h2 := ih fun s hs => h s (by simp [hs])
        have h3 : (counted1 a).length ≤ 2002 := by
          simp [counted1, bytesI] at h1 ⊢
          omega
        rw [List.flatMap_cons, List.length_append, List.length_cons]
        omega
    have := hgen ss hss
    omega
  rw [List.nil_append] at hb2
  obtain ⟨m3, h3⟩ := stringOf (n := n + 1) h64 hb2 hfl hlen
  simp only [acodeN, aopsN, a40, b40, c40, d40, Tryd.f42, agd, astep, aop, ev, nth_zero, nth_succ, aput, setAt_zero, setAt_succ, alloc86, abuiltin, alen, show E.P.underlying 96 = some (.slice 9) from Tryd.underlying96, show ((0 : Nat) : Int) = 0 from rfl] at h2 ⊢
  simp only [h2, acodeN, aopsN, agd, astep, aop, ev, nth_zero, nth_succ, aput, setAt_zero, setAt_succ, call64, ainv, wr64, List.map_cons, List.map_nil, List.all_cons, List.all_nil, lit2, lit1, lit0, List.isEmpty_nil, Bool.and_self, if_true, Bool.false_and, Bool.false_eq_true, if_false, h3]
  exact ⟨_, rfl⟩
end
end Go.Am.Seat
