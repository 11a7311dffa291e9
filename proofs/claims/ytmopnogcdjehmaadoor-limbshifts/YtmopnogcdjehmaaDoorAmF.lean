/-
  The abstract machine: whole numbers, reckoned quickly (own work; nothing of a dump).
-/
import Derived.Test.YtmopnogcdjehmaaDoorAm4
set_option linter.unusedSimpArgs false
set_option linter.unusedVariables false
namespace Go.Am
noncomputable section

/-- The model's wrap, with its powers written out. -/
def wrapF : IntKind → Int → Int
  | .u8, n => n % 256
  | .u16, n => n % 65536
  | .u32, n => n % 4294967296
  | .u64, n => n % 18446744073709551616
  | .i8, n => if 128 ≤ n % 256 then n % 256 - 256 else n % 256
  | .i16, n => if 32768 ≤ n % 65536 then n % 65536 - 65536 else n % 65536
  | .i32, n => if 2147483648 ≤ n % 4294967296 then n % 4294967296 - 4294967296 else n % 4294967296
  | .i64, n => if 9223372036854775808 ≤ n % 18446744073709551616 then n % 18446744073709551616 - 18446744073709551616 else n % 18446744073709551616

theorem wrapF_eq (k : IntKind) (n : Int) : wrapF k n = k.wrap n := by
  cases k <;> simp [wrapF, IntKind.wrap, IntKind.bits, IntKind.signed]

def pow2 (k : IntKind) : Int := match k with
  | .i8 | .u8 => 256
  | .i16 | .u16 => 65536
  | .i32 | .u32 => 4294967296
  | .i64 | .u64 => 18446744073709551616

theorem pow2_eq (k : IntKind) : pow2 k = ((2 ^ k.bits : Nat) : Int) := by cases k <;> rfl

def abits (op : BinOp) (k : IntKind) (a b : Int) : Option Int :=
  match op with
  | .and => some (wrapF k (((a % pow2 k).toNat &&& (b % pow2 k).toNat : Nat) : Int))
  | .or => some (wrapF k (((a % pow2 k).toNat ||| (b % pow2 k).toNat : Nat) : Int))
  | .xor => some (wrapF k (((a % pow2 k).toNat ^^^ (b % pow2 k).toNat : Nat) : Int))
  | _ => none

theorem abits_sound {P : Program} {w : World} {op : BinOp} {k : IntKind} {a b n : Int} (h : abits op k a b = some n) : (Op.intBits op k a b).run P w = .ok (.int k n) w := by
  unfold abits at h
  split at h
  all_goals first
    | (cases h; simp [Op.intBits, wrapF_eq, pow2_eq, BitVec.toNat_ofInt])
    | cases h

/-- An operation on two whole numbers. -/
def abin (op : BinOp) (k : IntKind) (a : Int) (k' : IntKind) (b : Int) : Option Value :=
  match op with
  | .shl => if b < 0 then none else some (.int k (wrapF k (a * ((2 ^ min b.toNat k.bits : Nat) : Int))))
  | .shr => if b < 0 then none else some (.int k (a.fdiv ((2 ^ min b.toNat k.bits : Nat) : Int)))
  | .add => if k = k' then some (.int k (wrapF k (a + b))) else none
  | .sub => if k = k' then some (.int k (wrapF k (a - b))) else none
  | .mul => if k = k' then some (.int k (wrapF k (a * b))) else none
  | .quo => if k = k' ∧ b ≠ 0 then some (.int k (wrapF k (a.tdiv b))) else none
  | .rem => if k = k' ∧ b ≠ 0 then some (.int k (a.tmod b)) else none
  | .and => if k = k' then (abits .and k a b).map (.int k ·) else none
  | .or => if k = k' then (abits .or k a b).map (.int k ·) else none
  | .xor => if k = k' then (abits .xor k a b).map (.int k ·) else none
  | .eql => if k = k' then some (.bool (a == b)) else none
  | .neq => if k = k' then some (.bool (a != b)) else none
  | .lss => if k = k' then some (.bool (decide (a < b))) else none
  | .leq => if k = k' then some (.bool (decide (a ≤ b))) else none
  | .gtr => if k = k' then some (.bool (decide (a > b))) else none
  | .geq => if k = k' then some (.bool (decide (a ≥ b))) else none
  | _ => none

theorem abin_lit {op : BinOp} {k k' : IntKind} {a b : Int} {v : Value} (h : abin op k a k' b = some v) : lit2 v = true := by
  unfold abin at h
  split at h
  all_goals (try split at h)
  all_goals first
    | (cases h; done)
    | (cases h; rfl)
    | (unfold abits at h; simp at h; subst h; rfl)

theorem abin_sound {P : Program} {w : World} {op : BinOp} {k k' : IntKind} {a b : Int} {v : Value} (t : TypeId) (h : abin op k a k' b = some v) :
    (binOp op t (.int k a) (.int k' b)).run P w = .ok v w := by
  unfold abin at h
  split at h
  case h_1 =>
    split at h
    · cases h
    · rename_i hb; cases h; simp [binOp, Op.shift, hb, wrapF_eq]
  case h_2 =>
    split at h
    · cases h
    · rename_i hb; cases h; simp [binOp, Op.shift, hb]
  case h_8 =>
    split at h
    · rename_i hk; subst hk
      cases hx : abits .and k a b with
      | none => rw [hx] at h; cases h
      | some n => rw [hx] at h; cases h; simp only [binOp, ne_eq, not_true, if_false]; exact abits_sound hx
    · cases h
  case h_9 =>
    split at h
    · rename_i hk; subst hk
      cases hx : abits .or k a b with
      | none => rw [hx] at h; cases h
      | some n => rw [hx] at h; cases h; simp only [binOp, ne_eq, not_true, if_false]; exact abits_sound hx
    · cases h
  case h_10 =>
    split at h
    · rename_i hk; subst hk
      cases hx : abits .xor k a b with
      | none => rw [hx] at h; cases h
      | some n => rw [hx] at h; cases h; simp only [binOp, ne_eq, not_true, if_false]; exact abits_sound hx
    · cases h
  all_goals first
    | (cases h; done)
    | (split at h
       · rename_i hk
         first
           | (subst hk; cases h; simp [binOp, Op.intArith, Op.intCmp, wrapF_eq]; done)
           | (obtain ⟨rfl, hb⟩ := hk; cases h; simp [binOp, Op.intDiv, hb, wrapF_eq])
       · cases h)

end
end Go.Am
