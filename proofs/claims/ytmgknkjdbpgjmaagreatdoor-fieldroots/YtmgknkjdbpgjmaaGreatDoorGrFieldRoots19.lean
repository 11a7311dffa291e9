/-
  Texts of my own, put together: A1, A2, A3, E1, E2, E3, A4.
-/
import Derived.Test.YtmgknkjdbpgjmaaGreatDoorGrFieldRoots13
import Derived.Test.YtmgknkjdbpgjmaaGreatDoorGrFieldRoots18
set_option linter.unusedSimpArgs false
set_option linter.unusedVariables false
set_option maxRecDepth 100000
namespace Go.Am.Num
def IsPrime (p : Nat) : Prop := 2 ≤ p ∧ ∀ d, d ∣ p → d = 1 ∨ d = p
theorem IsPrime.coprime {p a : Nat} (hp : IsPrime p) (h : ¬ p ∣ a) : Nat.Coprime p a := by
  rcases hp.2 _ (Nat.gcd_dvd_left p a) with h1 | h1
  · exact h1
  · exact absurd (h1 ▸ Nat.gcd_dvd_right p a) h
theorem IsPrime.dvd_mul {p a b : Nat} (hp : IsPrime p) (h : p ∣ a * b) : p ∣ a ∨ p ∣ b := by
  by_cases ha : p ∣ a
  · exact .inl ha
  · exact .inr ((hp.coprime ha).dvd_of_dvd_mul_left h)
theorem exists_prime {n : Nat} (h : 2 ≤ n) : ∃ r, IsPrime r ∧ r ∣ n := by
  induction n using Nat.strongRecOn with
  | ind n ih =>
    by_cases hd : ∃ d, d ∣ n ∧ d ≠ 1 ∧ d ≠ n
    · obtain ⟨d, h1, h2, h3⟩ := hd
      have hle := Nat.le_of_dvd (by omega) h1
      have h0 : d ≠ 0 := by
        intro e
        subst e
        have := Nat.eq_zero_of_zero_dvd h1
        omega
      obtain ⟨r, hr, hrd⟩ := ih d (by omega) (by omega)
      exact ⟨r, hr, Nat.dvd_trans hrd h1⟩
    · refine ⟨n, ⟨h, fun d h1 => ?_⟩, Nat.dvd_refl n⟩
      by_cases e : d = 1
      · exact .inl e
      · by_cases e2 : d = n
        · exact .inr e2
        · exact absurd ⟨d, h1, e, e2⟩ hd
def sumTo (f : Nat → Nat) : Nat → Nat
  | 0 => f 0
  | n + 1 => sumTo f n + f (n + 1)
def B : Nat → Nat → Nat
  | _, 0 => 1
  | 0, _ + 1 => 0
  | n + 1, k + 1 => B n k + B n (k + 1)
theorem B_zero (n : Nat) : B n 0 = 1 := by cases n <;> rfl
theorem B_over {n : Nat} : ∀ {k : Nat}, n < k → B n k = 0 := by
  induction n with
  | zero => intro k h; match k, h with | k + 1, _ => rfl
  | succ n ih =>
    intro k h
    match k, h with
    | k + 1, h => simp only [B]; rw [ih (by omega), ih (by omega)]
theorem B_self (n : Nat) : B n n = 1 := by
  induction n with
  | zero => rfl
  | succ n ih => simp only [B]; rw [ih, B_over (by omega)]
theorem sumTo_add (f g : Nat → Nat) (n : Nat) : sumTo f n + sumTo g n = sumTo (fun k => f k + g k) n := by
  induction n with
  | zero => rfl
  | succ n ih => simp only [sumTo]; omega
theorem sumTo_mul (f : Nat → Nat) (a n : Nat) : sumTo f n * a = sumTo (fun k => f k * a) n := by
  induction n with
  | zero => rfl
  | succ n ih => simp only [sumTo]; rw [Nat.add_mul, ih]
theorem sumTo_congr {f g : Nat → Nat} {n : Nat} (h : ∀ k, k ≤ n → f k = g k) : sumTo f n = sumTo g n := by
  induction n with
  | zero => exact h 0 (by omega)
  | succ n ih => simp only [sumTo]; rw [ih (fun k hk => h k (by omega)), h (n + 1) (by omega)]
theorem sumTo_first (f : Nat → Nat) (n : Nat) : sumTo f (n + 1) = f 0 + sumTo (fun k => f (k + 1)) n := by
  induction n with
  | zero => rfl
  | succ n ih =>
    have h1 : sumTo f (n + 1 + 1) = sumTo f (n + 1) + f (n + 1 + 1) := rfl
    have h2 : sumTo (fun k => f (k + 1)) (n + 1) = sumTo (fun k => f (k + 1)) n + f (n + 1 + 1) := rfl
    rw [h1, h2, ih]
    omega
theorem expand (a n : Nat) : (a + 1) ^ n = sumTo (fun k => B n k * a ^ k) n := by
  induction n with
  | zero => rfl
  | succ n ih =>
    have h1 : sumTo (fun k => B (n + 1) k * a ^ k) (n + 1) = 1 + sumTo (fun k => B n k * a ^ (k + 1) + B n (k + 1) * a ^ (k + 1)) n := by
      rw [sumTo_first]
      simp only [B_zero, Nat.pow_zero, Nat.mul_one]
      congr 1
      exact sumTo_congr fun k _ => by simp only [B]; rw [Nat.add_mul]
    have h2 : sumTo (fun k => B n k * a ^ k) (n + 1) = 1 + sumTo (fun k => B n (k + 1) * a ^ (k + 1)) n := by
      rw [sumTo_first]
      simp only [B_zero, Nat.pow_zero, Nat.mul_one]
    have h3 : sumTo (fun k => B n k * a ^ k) (n + 1) = sumTo (fun k => B n k * a ^ k) n := by
      simp only [sumTo]
      rw [B_over (by omega : n < n + 1)]
      omega
    rw [h1, ← sumTo_add, Nat.pow_succ, ih, Nat.mul_add, Nat.mul_one, sumTo_mul]
    have h4 : sumTo (fun k => B n k * a ^ k * a) n = sumTo (fun k => B n k * a ^ (k + 1)) n := sumTo_congr fun k _ => by rw [Nat.pow_succ, Nat.mul_assoc]
    rw [h4]
    omega
theorem mul_B (n : Nat) : ∀ k, (k + 1) * B (n + 1) (k + 1) = (n + 1) * B n k := by
  induction n with
  | zero =>
    intro k
    match k with
    | 0 => rfl
    | k + 1 => simp [B]
  | succ n ih =>
    intro k
    have h1 : B (n + 1 + 1) (k + 1) = B (n + 1) k + B (n + 1) (k + 1) := rfl
    rw [h1, Nat.mul_add, ih k]
    match k with
    | 0 => simp only [B_zero]; omega
    | k + 1 =>
      have h2 : (k + 1 + 1) * B (n + 1) (k + 1) = (k + 1) * B (n + 1) (k + 1) + B (n + 1) (k + 1) := by rw [Nat.add_mul (k + 1) 1, Nat.one_mul]
      rw [h2, ih k]
      have h3 : B (n + 1) (k + 1) = B n k + B n (k + 1) := rfl
      have h4 : (n + 1 + 1) * B (n + 1) (k + 1) = (n + 1) * B (n + 1) (k + 1) + B (n + 1) (k + 1) := by rw [Nat.add_mul (n + 1) 1, Nat.one_mul]
      rw [h4]
      have h5 : (n + 1) * B (n + 1) (k + 1) = (n + 1) * B n k + (n + 1) * B n (k + 1) := by rw [h3, Nat.mul_add]
      rw [h5]
      omega
theorem dvd_B {p k : Nat} (hp : IsPrime p) (h1 : 0 < k) (h2 : k < p) : p ∣ B p k := by
  obtain ⟨k, rfl⟩ : ∃ j, k = j + 1 := ⟨k - 1, by omega⟩
  obtain ⟨n, rfl⟩ : ∃ j, p = j + 1 := ⟨p - 1, by omega⟩
  have h : (n + 1) ∣ (k + 1) * B (n + 1) (k + 1) := ⟨B n k, mul_B n k⟩
  rcases hp.dvd_mul h with h | h
  · have := Nat.le_of_dvd (by omega) h; omega
  · exact h
theorem sumTo_mod {p : Nat} {f : Nat → Nat} {n : Nat} (h : ∀ k, 0 < k → k ≤ n → p ∣ f k) : sumTo f n % p = f 0 % p := by
  induction n with
  | zero => rfl
  | succ n ih =>
    simp only [sumTo]
    rw [Nat.add_mod, ih (fun k h1 h2 => h k h1 (by omega)), Nat.mod_eq_zero_of_dvd (h (n + 1) (by omega) (by omega)), Nat.add_zero, Nat.mod_mod]
theorem fermat0 {p : Nat} (hp : IsPrime p) (a : Nat) : a ^ p % p = a % p := by
  have h2 := hp.1
  induction a with
  | zero => rw [Nat.zero_pow (by omega)]
  | succ a ih =>
    rw [expand]
    obtain ⟨n, hn⟩ : ∃ n, p = n + 1 := ⟨p - 1, by omega⟩
    have h1 : sumTo (fun k => B p k * a ^ k) p = sumTo (fun k => B p k * a ^ k) n + a ^ p := by
      have : sumTo (fun k => B p k * a ^ k) (n + 1) = sumTo (fun k => B p k * a ^ k) n + B p (n + 1) * a ^ (n + 1) := rfl
      rw [← hn, B_self, Nat.one_mul] at this
      exact this
    rw [h1, Nat.add_mod, ih, sumTo_mod (fun k h3 h4 => Nat.dvd_trans (dvd_B hp h3 (by omega)) ⟨a ^ k, rfl⟩)]
    simp only [B_zero, Nat.pow_zero, Nat.mul_one]
    rw [← Nat.add_mod, Nat.add_comm]
theorem dvd_sub_of_mod {p x y : Nat} (h : x % p = y % p) (hle : y ≤ x) : p ∣ x - y := by
  have h1 := Nat.mod_add_div x p
  have h2 := Nat.mod_add_div y p
  rw [h] at h1
  refine ⟨x / p - y / p, ?_⟩
  rw [Nat.mul_sub]
  omega
theorem mod_of_dvd_sub {p x y : Nat} (h : p ∣ x - y) (hle : y ≤ x) : x % p = y % p := by
  obtain ⟨c, hc⟩ := h
  have : x = y + p * c := by omega
  rw [this, Nat.add_mul_mod_self_left]
theorem fermat {p : Nat} (hp : IsPrime p) {a : Nat} (ha : ¬ p ∣ a) : a ^ (p - 1) % p = 1 := by
  have h2 := hp.1
  have ha0 : 0 < a := by
    rcases Nat.eq_zero_or_pos a with h | h
    · exact absurd (h ▸ Nat.dvd_zero p) ha
    · exact h
  have h1 := fermat0 hp a
  have hpow : a ^ p = a * a ^ (p - 1) := by
    obtain ⟨n, hn⟩ : ∃ n, p = n + 1 := ⟨p - 1, by omega⟩
    rw [hn, Nat.add_sub_cancel, Nat.pow_succ, Nat.mul_comm]
  have hpos : 0 < a ^ (p - 1) := Nat.pow_pos ha0
  have hle : a ≤ a ^ p := by rw [hpow]; exact Nat.le_mul_of_pos_right a hpos
  have hd := dvd_sub_of_mod h1 hle
  have he : a ^ p - a = a * (a ^ (p - 1) - 1) := by rw [hpow, Nat.mul_sub, Nat.mul_one]
  rw [he] at hd
  rcases hp.dvd_mul hd with h | h
  · exact absurd h ha
  · rw [mod_of_dvd_sub h (by omega), Nat.mod_eq_of_lt (by omega)]
theorem pow_gcd {a r : Nat} (hr : 1 < r) (m n : Nat) : a ^ m % r = 1 → a ^ n % r = 1 → a ^ (Nat.gcd m n) % r = 1 := by
  induction m, n using Nat.gcd.induction with
  | H0 n => intro _ h; rw [Nat.gcd_zero_left]; exact h
  | H1 m n hm ih =>
    intro h1 h2
    rw [Nat.gcd_rec]
    refine ih ?_ h1
    have h3 : a ^ n = (a ^ m) ^ (n / m) * a ^ (n % m) := by
      rw [← Nat.pow_mul, ← Nat.pow_add]
      congr 1
      exact (Nat.div_add_mod n m).symm
    have h4 : (a ^ m) ^ (n / m) % r = 1 := by rw [Nat.pow_mod, h1, Nat.one_pow, Nat.mod_eq_of_lt hr]
    rw [h3, Nat.mul_mod, h4, Nat.one_mul, Nat.mod_mod] at h2
    exact h2
theorem pock {N q a : Nat} (hN : 2 ≤ N) (hq : IsPrime q) (hd : q ∣ N - 1) (h1 : a ^ (N - 1) % N = 1) (h2 : Nat.gcd (a ^ ((N - 1) / q) % N + (N - 1)) N = 1) {r : Nat} (hr : IsPrime r) (hrN : r ∣ N) : q ∣ r - 1 := by
  apply Classical.byContradiction
  intro hn
  have hr2 := hr.1
  have e1 : a ^ (N - 1) % r = 1 := by
    rw [← Nat.mod_mod_of_dvd _ hrN, h1, Nat.mod_eq_of_lt (by omega)]
  have hra : ¬ r ∣ a := by
    intro h
    obtain ⟨M, hM⟩ : ∃ M, N - 1 = M + 1 := ⟨N - 2, by omega⟩
    rw [hM, Nat.pow_succ, Nat.mul_mod, Nat.mod_eq_zero_of_dvd h, Nat.mul_zero, Nat.zero_mod] at e1
    omega
  have e2 := fermat hr hra
  have e3 := pow_gcd (by omega) _ _ e1 e2
  have hg1 := Nat.gcd_dvd_left (N - 1) (r - 1)
  have hg2 := Nat.gcd_dvd_right (N - 1) (r - 1)
  have hqg : ¬ q ∣ Nat.gcd (N - 1) (r - 1) := fun h => hn (Nat.dvd_trans h hg2)
  have hc := (hq.coprime hqg).symm
  have hM : N - 1 = q * ((N - 1) / q) := (Nat.mul_div_cancel' hd).symm
  have hg3 : Nat.gcd (N - 1) (r - 1) ∣ (N - 1) / q := hc.dvd_of_dvd_mul_left (by rw [← hM]; exact hg1)
  obtain ⟨c, hcc⟩ := hg3
  have e4 : a ^ ((N - 1) / q) % r = 1 := by rw [hcc, Nat.pow_mul, Nat.pow_mod, e3, Nat.one_pow, Nat.mod_eq_of_lt (by omega)]
  have e5 : (a ^ ((N - 1) / q) % N + (N - 1)) % r = 0 := by
    rw [Nat.add_mod, Nat.mod_mod_of_dvd _ hrN, e4]
    have : (1 + (N - 1) % r) % r = (1 % r + (N - 1) % r) % r := by rw [Nat.mod_eq_of_lt (by omega : 1 < r)]
    rw [this, ← Nat.add_mod, show 1 + (N - 1) = N by omega]
    exact Nat.mod_eq_zero_of_dvd hrN
  have := Nat.dvd_gcd (Nat.dvd_of_mod_eq_zero e5) hrN
  rw [h2] at this
  have := Nat.le_of_dvd (by omega) this
  omega
theorem prime_of_big {N F : Nat} (hN : 2 ≤ N) (hb : N < (F + 1) * (F + 1)) (h : ∀ r, IsPrime r → r ∣ N → F ∣ r - 1) : IsPrime N := by
  have hge : ∀ d, 2 ≤ d → d ∣ N → F + 1 ≤ d := fun d hd hdN => by
    obtain ⟨r, hr, hrd⟩ := exists_prime hd
    have h1 := h r hr (Nat.dvd_trans hrd hdN)
    have h2 := hr.1
    have h3 := Nat.le_of_dvd (by omega) h1
    have h4 := Nat.le_of_dvd (by omega) hrd
    omega
  refine ⟨hN, fun d hd => ?_⟩
  obtain ⟨e, he⟩ := hd
  by_cases h1 : d = 1
  · exact .inl h1
  · right
    have hd0 : d ≠ 0 := by intro h0; subst h0; omega
    by_cases h2 : e = 1
    · subst h2; omega
    · have he0 : e ≠ 0 := by intro h0; subst h0; omega
      have g1 := hge d (by omega) ⟨e, he⟩
      have g2 := hge e (by omega) ⟨d, by rw [he, Nat.mul_comm]⟩
      have := Nat.mul_le_mul g1 g2
      omega
def pm (N b : Nat) : Nat → Nat → Nat
  | 0, _ => 1 % N
  | f + 1, e => cond (Nat.beq e 0) (1 % N) (cond (Nat.beq (e % 2) 1) ((pm N b f (e / 2)) ^ 2 % N * b % N) ((pm N b f (e / 2)) ^ 2 % N))
theorem pm_eq (N b : Nat) : ∀ f e, e < 2 ^ f → pm N b f e = b ^ e % N := by
  intro f
  induction f with
  | zero => intro e h; have : e = 0 := by simpa using h
            subst this; rfl
  | succ f ih =>
    intro e h
    simp only [pm]
    have h1 : e / 2 < 2 ^ f := by rw [Nat.pow_succ] at h; omega
    rw [ih _ h1]
    cases h0 : Nat.beq e 0 with
    | true => have := Nat.eq_of_beq_eq_true h0; subst this; rfl
    | false =>
      have hsq : (b ^ (e / 2) % N) ^ 2 % N = b ^ (2 * (e / 2)) % N := by rw [← Nat.pow_mod, ← Nat.pow_mul, Nat.mul_comm]
      cases h2 : Nat.beq (e % 2) 1 with
      | true =>
        have h3 := Nat.eq_of_beq_eq_true h2
        simp only [cond_false, cond_true]
        rw [hsq, Nat.mod_mul_mod, ← Nat.pow_succ]
        congr 2
        omega
      | false =>
        have h3 : e % 2 ≠ 1 := Nat.ne_of_beq_eq_false h2
        simp only [cond_false]
        rw [hsq]
        congr 2
        omega
theorem pock1 {N q a f : Nat} (hN : 2 ≤ N) (hq : IsPrime q) (hd : (N - 1) % q = 0) (hf : N < 2 ^ f) (h1 : pm N a f (N - 1) = 1) (h2 : Nat.gcd (pm N a f ((N - 1) / q) + (N - 1)) N = 1) {r : Nat} (hr : IsPrime r) (hrN : r ∣ N) : q ∣ r - 1 := by
  rw [pm_eq _ _ _ _ (by omega)] at h1
  rw [pm_eq _ _ _ _ (Nat.lt_of_le_of_lt (Nat.div_le_self _ _) (by omega))] at h2
  exact pock hN hq (Nat.dvd_of_mod_eq_zero hd) h1 h2 hr hrN
theorem two_dvd {q1 q2 n : Nat} (h1 : IsPrime q1) (h2 : IsPrime q2) (hlt : q2 < q1) (d1 : q1 ∣ n) (d2 : q2 ∣ n) : q1 * q2 ∣ n := by
  have hc : Nat.Coprime q1 q2 := h1.coprime fun h => by
    have := Nat.le_of_dvd (by have := h2.1; omega) h
    omega
  exact hc.mul_dvd_of_dvd_of_dvd d1 d2
def trial (n : Nat) : Nat → Nat → Bool
  | 0, _ => true
  | f + 1, d => cond (Nat.beq (n % d) 0) false (trial n f (d + 1))
theorem trial_ok {n : Nat} : ∀ {f d : Nat}, trial n f d = true → ∀ e, d ≤ e → e < d + f → n % e ≠ 0 := by
  intro f
  induction f with
  | zero => intro d _ e h1 h2; omega
  | succ f ih =>
    intro d h e h1 h2
    simp only [trial] at h
    cases h0 : Nat.beq (n % d) 0 with
    | true => rw [h0] at h; cases h
    | false =>
      rw [h0] at h
      by_cases he : e = d
      · subst he; exact Nat.ne_of_beq_eq_false h0
      · exact ih h e (by omega) (by omega)
theorem prime_of_trial {n f : Nat} (hn : 2 ≤ n) (hf : n < (f + 2) * (f + 2)) (h : trial n f 2 = true) : IsPrime n := by
  have hge : ∀ d, 2 ≤ d → d ∣ n → f + 2 ≤ d := fun d hd hdn => by
    by_cases hl : d < 2 + f
    · exact absurd (Nat.mod_eq_zero_of_dvd hdn) (trial_ok h d hd hl)
    · omega
  refine ⟨hn, fun d hd => ?_⟩
  obtain ⟨e, he⟩ := hd
  by_cases h1 : d = 1
  · exact .inl h1
  · right
    have hd0 : d ≠ 0 := by intro h0; subst h0; omega
    by_cases h2 : e = 1
    · subst h2; omega
    · have he0 : e ≠ 0 := by intro h0; subst h0; omega
      have g1 := hge d (by omega) ⟨e, he⟩
      have g2 := hge e (by omega) ⟨d, by rw [he, Nat.mul_comm]⟩
      have := Nat.mul_le_mul g1 g2
      omega
end Go.Am.Num
namespace Go.Am.Num
theorem prime_8574133 : IsPrime 8574133 := prime_of_trial (f := 3000) (by decide) (by decide) (by decide +kernel)
theorem prime_127 : IsPrime 127 := prime_of_trial (f := 20) (by decide) (by decide) (by decide +kernel)
theorem prime_569003 : IsPrime 569003 := prime_of_trial (f := 800) (by decide) (by decide) (by decide +kernel)
theorem prime_430751 : IsPrime 430751 := prime_of_trial (f := 800) (by decide) (by decide) (by decide +kernel)
theorem prime_4153 : IsPrime 4153 := prime_of_trial (f := 80) (by decide) (by decide) (by decide +kernel)
theorem prime_c : IsPrime 2773320623 := prime_of_big (F := 569003) (by decide) (by decide) fun r hr hrN =>
  pock1 (a := 2) (f := 40) (by decide) prime_569003 (by decide) (by decide) (by decide +kernel) (by decide +kernel) hr hrN
theorem prime_d : IsPrime 72106336199 := prime_of_big (F := 2773320623) (by decide) (by decide) fun r hr hrN =>
  pock1 (a := 2) (f := 40) (by decide) prime_c (by decide) (by decide) (by decide +kernel) (by decide +kernel) hr hrN
theorem prime_e : IsPrime 1919519569386763 := prime_of_big (F := 8574133 * 127) (by decide) (by decide) fun r hr hrN =>
  two_dvd prime_8574133 prime_127 (by decide)
    (pock1 (a := 2) (f := 60) (by decide) prime_8574133 (by decide) (by decide) (by decide +kernel) (by decide +kernel) hr hrN)
    (pock1 (a := 2) (f := 60) (by decide) prime_127 (by decide) (by decide) (by decide +kernel) (by decide +kernel) hr hrN)
theorem prime_f : IsPrime 31757755568855353 := prime_of_big (F := 430751 * 4153) (by decide) (by decide) fun r hr hrN =>
  two_dvd prime_430751 prime_4153 (by decide)
    (pock1 (a := 2) (f := 60) (by decide) prime_430751 (by decide) (by decide) (by decide +kernel) (by decide +kernel) hr hrN)
    (pock1 (a := 2) (f := 60) (by decide) prime_4153 (by decide) (by decide) (by decide +kernel) (by decide +kernel) hr hrN)
theorem prime_g : IsPrime 75445702479781427272750846543864801 := prime_of_big (F := 1919519569386763 * 72106336199) (by decide) (by decide) fun r hr hrN =>
  two_dvd prime_e prime_d (by decide)
    (pock1 (a := 2) (f := 120) (by decide) prime_e (by decide) (by decide) (by decide +kernel) (by decide +kernel) hr hrN)
    (pock1 (a := 2) (f := 120) (by decide) prime_d (by decide) (by decide) (by decide +kernel) (by decide +kernel) hr hrN)
theorem prime_h : IsPrime 74058212732561358302231226437062788676166966415465897661863160754340907 := prime_of_big (F := 75445702479781427272750846543864801 * 31757755568855353) (by decide) (by decide) fun r hr hrN =>
  two_dvd prime_g prime_f (by decide)
    (pock1 (a := 2) (f := 240) (by decide) prime_g (by decide) (by decide) (by decide +kernel) (by decide +kernel) hr hrN)
    (pock1 (a := 2) (f := 240) (by decide) prime_f (by decide) (by decide) (by decide +kernel) (by decide +kernel) hr hrN)
theorem prime_p : IsPrime 57896044618658097711785492504343953926634992332820282019728792003956564819949 := prime_of_big (F := 74058212732561358302231226437062788676166966415465897661863160754340907) (by decide) (by decide) fun r hr hrN =>
  pock1 (a := 2) (f := 255) (by decide) prime_h (by decide) (by decide) (by decide +kernel) (by decide +kernel) hr hrN
end Go.Am.Num
namespace Go.Am.Num
set_option maxHeartbeats 4000000
def wd (k V : Nat) : Nat := V / 18446744073709551616 ^ k % 18446744073709551616
theorem wd_lt (k V : Nat) : wd k V < 18446744073709551616 := Nat.mod_lt _ (by decide)
theorem wd_0 (V : Nat) : wd 0 V = V % 18446744073709551616 := by simp [wd]
theorem wd_1 (V : Nat) : wd 1 V = V / 18446744073709551616 % 18446744073709551616 := by simp [wd]
theorem wd_2 (V : Nat) : wd 2 V = V / 340282366920938463463374607431768211456 % 18446744073709551616 := rfl
theorem wd_3 (V : Nat) : wd 3 V = V / 6277101735386680763835789423207666416102355444464034512896 % 18446744073709551616 := rfl
theorem wd_4 (V : Nat) : wd 4 V = V / 115792089237316195423570985008687907853269984665640564039457584007913129639936 % 18446744073709551616 := rfl
def v4 (a b c d : Nat) : Nat := a + b * 18446744073709551616 + c * 340282366920938463463374607431768211456 + d * 6277101735386680763835789423207666416102355444464034512896
theorem wd_v4 {a b c d : Nat} (ha : a < 18446744073709551616) (hb : b < 18446744073709551616) (hc : c < 18446744073709551616) (hd : d < 18446744073709551616) :
    wd 0 (v4 a b c d) = a ∧ wd 1 (v4 a b c d) = b ∧ wd 2 (v4 a b c d) = c ∧ wd 3 (v4 a b c d) = d := by
  simp only [wd_0, wd_1, wd_2, wd_3, v4]
  omega
theorem v4_wd {V : Nat} (h : V < 115792089237316195423570985008687907853269984665640564039457584007913129639936) : v4 (wd 0 V) (wd 1 V) (wd 2 V) (wd 3 V) = V := by
  simp only [wd_0, wd_1, wd_2, wd_3, v4]
  omega
theorem plus_ok (V n : Nat) :
    (wd 0 V + n) % 18446744073709551616 = wd 0 (V + n) ∧ (wd 1 V + (wd 0 V + n) / 18446744073709551616) % 18446744073709551616 = wd 1 (V + n) ∧
    (wd 2 V + (wd 1 V + (wd 0 V + n) / 18446744073709551616) / 18446744073709551616) % 18446744073709551616 = wd 2 (V + n) ∧
    (wd 3 V + (wd 2 V + (wd 1 V + (wd 0 V + n) / 18446744073709551616) / 18446744073709551616) / 18446744073709551616) % 18446744073709551616 = wd 3 (V + n) := by
  simp only [wd_0, wd_1, wd_2, wd_3]
  omega
theorem settle_ok {V S R : Nat} {a b c d more : Nat} (ha : a < 18446744073709551616) (hb : b < 18446744073709551616) (hc : c < 18446744073709551616) (hd : d < 18446744073709551616) (hm : more < 4294967296)
    (hV : V = v4 a b c d + more * 115792089237316195423570985008687907853269984665640564039457584007913129639936)
    (hS : S = v4 a b c (d % 9223372036854775808) + 19 * (2 * more + d / 9223372036854775808))
    (hR : R = S + 19 * (wd 3 (S + 19) / 9223372036854775808)) :
    wd 0 R = wd 0 (V % 57896044618658097711785492504343953926634992332820282019728792003956564819949) ∧ wd 1 R = wd 1 (V % 57896044618658097711785492504343953926634992332820282019728792003956564819949) ∧
    wd 2 R = wd 2 (V % 57896044618658097711785492504343953926634992332820282019728792003956564819949) ∧ wd 3 R % 9223372036854775808 = wd 3 (V % 57896044618658097711785492504343953926634992332820282019728792003956564819949) := by
  have hSV : V % 57896044618658097711785492504343953926634992332820282019728792003956564819949 = S % 57896044618658097711785492504343953926634992332820282019728792003956564819949 := by
    have : V = S + (2 * more + d / 9223372036854775808) * 57896044618658097711785492504343953926634992332820282019728792003956564819949 := by
      simp only [hV, hS, v4]
      omega
    rw [this, Nat.add_mul_mod_self_right]
  have hSb : S < 57896044618658097711785492504343953926634992332820282019728792003956564819968 + 274877906944 := by
    simp only [hS, v4]
    omega
  rw [hSV]
  clear hSV hV hS
  by_cases ht : S + 19 < 57896044618658097711785492504343953926634992332820282019728792003956564819968
  · have h1 : wd 3 (S + 19) / 9223372036854775808 = 0 := by rw [wd_3]; omega
    have h2 : S % 57896044618658097711785492504343953926634992332820282019728792003956564819949 = S := Nat.mod_eq_of_lt (by omega)
    rw [h1] at hR
    rw [h2, hR]
    simp only [wd_0, wd_1, wd_2, wd_3]
    omega
  · have h1 : wd 3 (S + 19) / 9223372036854775808 = 1 := by rw [wd_3]; omega
    have h2 : S % 57896044618658097711785492504343953926634992332820282019728792003956564819949 = S - 57896044618658097711785492504343953926634992332820282019728792003956564819949 := by omega
    rw [h1] at hR
    rw [h2, hR]
    simp only [wd_0, wd_1, wd_2, wd_3]
    omega
theorem mul64_ok {x y : Nat} (hx : x < 18446744073709551616) (hy : y < 18446744073709551616) {x0 x1 y0 y1 w0 t w1 w2 w3 hi : Nat}
    (e1 : x0 = x % 4294967296) (e2 : x1 = x / 4294967296) (e3 : y0 = y % 4294967296) (e4 : y1 = y / 4294967296) (e5 : w0 = x0 * y0 % 18446744073709551616) (e6 : t = (x1 * y0 % 18446744073709551616 + w0 / 4294967296) % 18446744073709551616)
    (e7 : w1 = t % 4294967296) (e8 : w2 = t / 4294967296) (e9 : w3 = (w1 + x0 * y1 % 18446744073709551616) % 18446744073709551616)
    (e10 : hi = ((x1 * y1 % 18446744073709551616 + w2) % 18446744073709551616 + w3 / 4294967296) % 18446744073709551616) : hi = x * y / 18446744073709551616 := by
  have hx0 : x0 < 4294967296 := by omega
  have hx1 : x1 < 4294967296 := by omega
  have hy0 : y0 < 4294967296 := by omega
  have hy1 : y1 < 4294967296 := by omega
  have b1 : x0 * y0 ≤ 4294967295 * 4294967295 := Nat.mul_le_mul (by omega) (by omega)
  have b2 : x1 * y0 ≤ 4294967295 * 4294967295 := Nat.mul_le_mul (by omega) (by omega)
  have b3 : x0 * y1 ≤ 4294967295 * 4294967295 := Nat.mul_le_mul (by omega) (by omega)
  have b4 : x1 * y1 ≤ 4294967295 * 4294967295 := Nat.mul_le_mul (by omega) (by omega)
  have hxx : x = x1 * 4294967296 + x0 := by omega
  have hyy : y = y1 * 4294967296 + y0 := by omega
  have hp : x * y = x1 * y1 * 18446744073709551616 + (x1 * y0 + x0 * y1) * 4294967296 + x0 * y0 := by
    rw [hxx, hyy, Nat.add_mul, Nat.mul_add, Nat.mul_add]
    have k1 : x1 * 4294967296 * (y1 * 4294967296) = x1 * y1 * 18446744073709551616 := by
      rw [Nat.mul_mul_mul_comm]
    have k2 : x1 * 4294967296 * y0 = x1 * y0 * 4294967296 := by rw [Nat.mul_right_comm]
    have k3 : x0 * (y1 * 4294967296) = x0 * y1 * 4294967296 := by rw [Nat.mul_assoc]
    rw [k1, k2, k3]
    omega
  rw [hp]
  clear hp hxx hyy e1 e2 e3 e4
  generalize x0 * y0 = p00 at *
  generalize x1 * y0 = p10 at *
  generalize x0 * y1 = p01 at *
  generalize x1 * y1 = p11 at *
  omega
theorem hi_lt {x n : Nat} (hx : x < 18446744073709551616) (hn : n < 18446744073709551616) : x * n / 18446744073709551616 ≤ 18446744073709551614 := by
  have : x * n ≤ 18446744073709551615 * 18446744073709551615 := Nat.mul_le_mul (by omega) (by omega)
  omega
theorem dm (x : Nat) : ∃ q r, x / 18446744073709551616 = q ∧ x % 18446744073709551616 = r ∧ x = q * 18446744073709551616 + r ∧ r < 18446744073709551616 := ⟨_, _, rfl, rfl, by omega, by omega⟩
theorem digits5 {V m1 m2 m3 m4 e : Nat} (hV : V = m1 + m2 * 18446744073709551616 + m3 * 340282366920938463463374607431768211456 + m4 * 6277101735386680763835789423207666416102355444464034512896 + e * 115792089237316195423570985008687907853269984665640564039457584007913129639936)
    (h1 : m1 < 18446744073709551616) (h2 : m2 < 18446744073709551616) (h3 : m3 < 18446744073709551616) (h4 : m4 < 18446744073709551616) (h5 : e < 18446744073709551616) :
    m1 = wd 0 V ∧ m2 = wd 1 V ∧ m3 = wd 2 V ∧ m4 = wd 3 V ∧ e = wd 4 V ∧ e = V / 115792089237316195423570985008687907853269984665640564039457584007913129639936 := by
  simp only [wd_0, wd_1, wd_2, wd_3, wd_4]
  omega
theorem stage1 {p0 p1 p2 p3 h0 h1 h2 h3 l0 l1 l2 l3 c1 c2 c3 r1 r2 r3 : Nat} (e0 : p0 = h0 * 18446744073709551616 + l0) (e1 : p1 = h1 * 18446744073709551616 + l1) (e2 : p2 = h2 * 18446744073709551616 + l2) (e3 : p3 = h3 * 18446744073709551616 + l3)
    (f1 : l1 + h0 = c1 * 18446744073709551616 + r1) (f2 : l2 + h1 + c1 = c2 * 18446744073709551616 + r2) (f3 : l3 + h2 + c2 = c3 * 18446744073709551616 + r3) :
    p0 + p1 * 18446744073709551616 + p2 * 340282366920938463463374607431768211456 + p3 * 6277101735386680763835789423207666416102355444464034512896 = l0 + r1 * 18446744073709551616 + r2 * 340282366920938463463374607431768211456 + r3 * 6277101735386680763835789423207666416102355444464034512896 + (h3 + c3) * 115792089237316195423570985008687907853269984665640564039457584007913129639936 := by
  omega
theorem stage2 {a b c d l0 r1 r2 r3 H d1 d2 d3 d4 m1 m2 m3 m4 : Nat} (f1 : a + l0 = d1 * 18446744073709551616 + m1) (f2 : b + r1 + d1 = d2 * 18446744073709551616 + m2) (f3 : c + r2 + d2 = d3 * 18446744073709551616 + m3) (f4 : d + r3 + d3 = d4 * 18446744073709551616 + m4) :
    l0 + r1 * 18446744073709551616 + r2 * 340282366920938463463374607431768211456 + r3 * 6277101735386680763835789423207666416102355444464034512896 + H * 115792089237316195423570985008687907853269984665640564039457584007913129639936 + v4 a b c d =
      m1 + m2 * 18446744073709551616 + m3 * 340282366920938463463374607431768211456 + m4 * 6277101735386680763835789423207666416102355444464034512896 + (H + d4) * 115792089237316195423570985008687907853269984665640564039457584007913129639936 := by
  unfold v4
  omega
theorem carry_le {x y c q r : Nat} (hx : x < 18446744073709551616) (hy : y < 18446744073709551616) (hc : c ≤ 1) (h : x + y + c = q * 18446744073709551616 + r) (hr : r < 18446744073709551616) : q ≤ 1 := by omega
theorem times_ok {x0 x1 x2 x3 n a b c d : Nat} (h0 : x0 < 18446744073709551616) (h1 : x1 < 18446744073709551616) (h2 : x2 < 18446744073709551616) (h3 : x3 < 18446744073709551616) (hn : n < 18446744073709551616)
    (ha : a < 18446744073709551616) (hb : b < 18446744073709551616) (hc : c < 18446744073709551616) (hd : d < 18446744073709551616)
    {s1 s2 s3 H k1 k2 k3 k4 e V : Nat}
    (e1 : s1 = x1 * n % 18446744073709551616 + x0 * n / 18446744073709551616)
    (e2 : s2 = x2 * n % 18446744073709551616 + x1 * n / 18446744073709551616 + s1 / 18446744073709551616)
    (e3 : s3 = x3 * n % 18446744073709551616 + x2 * n / 18446744073709551616 + s2 / 18446744073709551616)
    (e4 : H = (x3 * n / 18446744073709551616 + s3 / 18446744073709551616) % 18446744073709551616)
    (f1 : k1 = a + x0 * n % 18446744073709551616)
    (f2 : k2 = b + s1 % 18446744073709551616 + k1 / 18446744073709551616)
    (f3 : k3 = c + s2 % 18446744073709551616 + k2 / 18446744073709551616)
    (f4 : k4 = d + s3 % 18446744073709551616 + k3 / 18446744073709551616)
    (f5 : e = (H + k4 / 18446744073709551616) % 18446744073709551616)
    (hV : V = v4 x0 x1 x2 x3 * n + v4 a b c d) :
    (s1 / 18446744073709551616 ≤ 1 ∧ s2 / 18446744073709551616 ≤ 1 ∧ k1 / 18446744073709551616 ≤ 1 ∧ k2 / 18446744073709551616 ≤ 1 ∧ k3 / 18446744073709551616 ≤ 1) ∧
    k1 % 18446744073709551616 = wd 0 V ∧ k2 % 18446744073709551616 = wd 1 V ∧ k3 % 18446744073709551616 = wd 2 V ∧ k4 % 18446744073709551616 = wd 3 V ∧ e = wd 4 V ∧ e = V / 115792089237316195423570985008687907853269984665640564039457584007913129639936 := by
  have b0 := hi_lt h0 hn
  have b1 := hi_lt h1 hn
  have b2 := hi_lt h2 hn
  have b3 := hi_lt h3 hn
  have hX : v4 x0 x1 x2 x3 * n = x0 * n + x1 * n * 18446744073709551616 + x2 * n * 340282366920938463463374607431768211456 + x3 * n * 6277101735386680763835789423207666416102355444464034512896 := by
    unfold v4
    rw [Nat.add_mul, Nat.add_mul, Nat.add_mul, Nat.mul_right_comm x1, Nat.mul_right_comm x2, Nat.mul_right_comm x3]
  have hbig : v4 x0 x1 x2 x3 * n ≤ 115792089237316195423570985008687907853269984665640564039457584007913129639935 * 18446744073709551615 := Nat.mul_le_mul (by unfold v4; omega) (by omega)
  generalize v4 x0 x1 x2 x3 * n = X at *
  generalize x0 * n = p0 at *
  generalize x1 * n = p1 at *
  generalize x2 * n = p2 at *
  generalize x3 * n = p3 at *
  obtain ⟨g0, l0, A0, C0, q3, q4⟩ := dm p0
  obtain ⟨g1, l1, A1, C1, q5, q6⟩ := dm p1
  obtain ⟨g2, l2, A2, C2, q7, q8⟩ := dm p2
  obtain ⟨g3, l3, A3, C3, q9, q10⟩ := dm p3
  obtain ⟨c1, r1, A4, C4, u3, u4⟩ := dm s1
  obtain ⟨c2, r2, A5, C5, u5, u6⟩ := dm s2
  obtain ⟨c3, r3, A6, C6, u7, u8⟩ := dm s3
  obtain ⟨d1, m1, A7, C7, u9, u10⟩ := dm k1
  obtain ⟨d2, m2, A8, C8, u11, u12⟩ := dm k2
  obtain ⟨d3, m3, A9, C9, u13, u14⟩ := dm k3
  obtain ⟨d4, m4, A10, C10, u15, u16⟩ := dm k4
  rw [A0] at b0
  rw [A1] at b1
  rw [A2] at b2
  rw [A3] at b3
  rw [C1, A0] at e1
  rw [C2, A1, A4] at e2
  rw [C3, A2, A5] at e3
  rw [A3, A6] at e4
  rw [C0] at f1
  rw [C4, A7] at f2
  rw [C5, A8] at f3
  rw [C6, A9] at f4
  rw [A10] at f5
  rw [A4, A5, A7, A8, A9, C7, C8, C9, C10]
  have i1 : l1 + g0 = c1 * 18446744073709551616 + r1 := e1.symm.trans u3
  have i2 : l2 + g1 + c1 = c2 * 18446744073709551616 + r2 := e2.symm.trans u5
  have i3 : l3 + g2 + c2 = c3 * 18446744073709551616 + r3 := e3.symm.trans u7
  have j1 : a + l0 = d1 * 18446744073709551616 + m1 := f1.symm.trans u9
  have j2 : b + r1 + d1 = d2 * 18446744073709551616 + m2 := f2.symm.trans u11
  have j3 : c + r2 + d2 = d3 * 18446744073709551616 + m3 := f3.symm.trans u13
  have j4 : d + r3 + d3 = d4 * 18446744073709551616 + m4 := f4.symm.trans u15
  have w1 : c1 ≤ 1 := carry_le (c := 0) q6 (by omega) (by omega) i1 u4
  have w2 : c2 ≤ 1 := carry_le q8 (by omega) w1 i2 u6
  have w3 : c3 ≤ 1 := carry_le q10 (by omega) w2 i3 u8
  have w4 : d1 ≤ 1 := carry_le (c := 0) ha q4 (by omega) j1 u10
  have w5 : d2 ≤ 1 := carry_le hb u4 w4 j2 u12
  have w6 : d3 ≤ 1 := carry_le hc u6 w5 j3 u14
  have w7 : d4 ≤ 1 := carry_le hd u8 w6 j4 u16
  have t1 := stage1 q3 q5 q7 q9 i1 i2 i3
  rw [← hX] at t1
  have hH : H = g3 + c3 := by rw [e4]; exact Nat.mod_eq_of_lt (by omega)
  have hHb : H ≤ 18446744073709551614 := by
    clear e1 e2 e3 e4 f1 f2 f3 f4 f5 u3 u5 u7 u9 u11 u13 u15 i1 i2 i3 j1 j2 j3 j4 q3 q5 q7 q9 hX hV
    omega
  have hee : e = H + d4 := by rw [f5]; exact Nat.mod_eq_of_lt (by omega)
  have t2 := stage2 (H := H) j1 j2 j3 j4
  rw [hH] at t2
  rw [← t1] at t2
  have := digits5 (hV.trans t2) u10 u12 u14 u16 (by omega)
  rw [hee, hH]
  exact ⟨⟨w1, w2, w4, w5, w6⟩, this⟩
end Go.Am.Num
namespace Go.Am.Seat
open Go.Proofs Go.Am Go.Am.Num
set_option maxHeartbeats 4000000
noncomputable def rml_0 : Array Oper := match Tryz.f59.body with
  | some (.seq (.region _ o _) _) => o
  | _ => #[]
noncomputable def lml_0 : List Oper := match Tryz.f59.body with
  | some (.seq (.region _ o _) _) => o.toList
  | _ => []
theorem eml_0 : rml_0.toList = lml_0 := rfl
noncomputable def rml_1 : Array Oper := match Tryz.f59.body with
  | some (.seq _ (.seq (.region _ o _) _)) => o
  | _ => #[]
noncomputable def lml_1 : List Oper := match Tryz.f59.body with
  | some (.seq _ (.seq (.region _ o _) _)) => o.toList
  | _ => []
theorem eml_1 : rml_1.toList = lml_1 := rfl
noncomputable def rml_2 : Array Oper := match Tryz.f59.body with
  | some (.seq _ (.seq _ (.seq (.region _ o _) _))) => o
  | _ => #[]
noncomputable def lml_2 : List Oper := match Tryz.f59.body with
  | some (.seq _ (.seq _ (.seq (.region _ o _) _))) => o.toList
  | _ => []
theorem eml_2 : rml_2.toList = lml_2 := rfl
noncomputable def rml_3 : Array Oper := match Tryz.f59.body with
  | some (.seq _ (.seq _ (.seq _ (.seq (.region _ o _) _)))) => o
  | _ => #[]
noncomputable def lml_3 : List Oper := match Tryz.f59.body with
  | some (.seq _ (.seq _ (.seq _ (.seq (.region _ o _) _)))) => o.toList
  | _ => []
theorem eml_3 : rml_3.toList = lml_3 := rfl
noncomputable def rml_4 : Array Oper := match Tryz.f59.body with
  | some (.seq _ (.seq _ (.seq _ (.seq _ (.seq (.region _ o _) _))))) => o
  | _ => #[]
noncomputable def lml_4 : List Oper := match Tryz.f59.body with
  | some (.seq _ (.seq _ (.seq _ (.seq _ (.seq (.region _ o _) _))))) => o.toList
  | _ => []
theorem eml_4 : rml_4.toList = lml_4 := rfl
noncomputable def rml_5 : Array Oper := match Tryz.f59.body with
  | some (.seq _ (.seq _ (.seq _ (.seq _ (.seq _ (.seq (.region _ o _) _)))))) => o
  | _ => #[]
noncomputable def lml_5 : List Oper := match Tryz.f59.body with
  | some (.seq _ (.seq _ (.seq _ (.seq _ (.seq _ (.seq (.region _ o _) _)))))) => o.toList
  | _ => []
theorem eml_5 : rml_5.toList = lml_5 := rfl
noncomputable def rml_6 : Array Oper := match Tryz.f59.body with
  | some (.seq _ (.seq _ (.seq _ (.seq _ (.seq _ (.seq _ (.seq (.region _ o _) _))))))) => o
  | _ => #[]
noncomputable def lml_6 : List Oper := match Tryz.f59.body with
  | some (.seq _ (.seq _ (.seq _ (.seq _ (.seq _ (.seq _ (.seq (.region _ o _) _))))))) => o.toList
  | _ => []
theorem eml_6 : rml_6.toList = lml_6 := rfl
noncomputable def rml_7 : Array Oper := match Tryz.f59.body with
  | some (.seq _ (.seq _ (.seq _ (.seq _ (.seq _ (.seq _ (.seq _ (.seq (.region _ o _) _)))))))) => o
  | _ => #[]
noncomputable def lml_7 : List Oper := match Tryz.f59.body with
  | some (.seq _ (.seq _ (.seq _ (.seq _ (.seq _ (.seq _ (.seq _ (.seq (.region _ o _) _)))))))) => o.toList
  | _ => []
theorem eml_7 : rml_7.toList = lml_7 := rfl
noncomputable def rml_8 : Array Oper := match Tryz.f59.body with
  | some (.seq _ (.seq _ (.seq _ (.seq _ (.seq _ (.seq _ (.seq _ (.seq _ (.seq (.region _ o _) _))))))))) => o
  | _ => #[]
noncomputable def lml_8 : List Oper := match Tryz.f59.body with
  | some (.seq _ (.seq _ (.seq _ (.seq _ (.seq _ (.seq _ (.seq _ (.seq _ (.seq (.region _ o _) _))))))))) => o.toList
  | _ => []
theorem eml_8 : rml_8.toList = lml_8 := rfl
noncomputable def rml_9 : Array Oper := match Tryz.f59.body with
  | some (.seq _ (.seq _ (.seq _ (.seq _ (.seq _ (.seq _ (.seq _ (.seq _ (.seq _ (.seq (.region _ o _) _)))))))))) => o
  | _ => #[]
noncomputable def lml_9 : List Oper := match Tryz.f59.body with
  | some (.seq _ (.seq _ (.seq _ (.seq _ (.seq _ (.seq _ (.seq _ (.seq _ (.seq _ (.seq (.region _ o _) _)))))))))) => o.toList
  | _ => []
theorem eml_9 : rml_9.toList = lml_9 := rfl
noncomputable def rml_10 : Array Oper := match Tryz.f59.body with
  | some (.seq _ (.seq _ (.seq _ (.seq _ (.seq _ (.seq _ (.seq _ (.seq _ (.seq _ (.seq _ (.seq (.region _ o _) _))))))))))) => o
  | _ => #[]
noncomputable def lml_10 : List Oper := match Tryz.f59.body with
  | some (.seq _ (.seq _ (.seq _ (.seq _ (.seq _ (.seq _ (.seq _ (.seq _ (.seq _ (.seq _ (.seq (.region _ o _) _))))))))))) => o.toList
  | _ => []
theorem eml_10 : rml_10.toList = lml_10 := rfl
noncomputable def rml_11 : Array Oper := match Tryz.f59.body with
  | some (.seq _ (.seq _ (.seq _ (.seq _ (.seq _ (.seq _ (.seq _ (.seq _ (.seq _ (.seq _ (.seq _ (.seq (.region _ o _) _)))))))))))) => o
  | _ => #[]
noncomputable def lml_11 : List Oper := match Tryz.f59.body with
  | some (.seq _ (.seq _ (.seq _ (.seq _ (.seq _ (.seq _ (.seq _ (.seq _ (.seq _ (.seq _ (.seq _ (.seq (.region _ o _) _)))))))))))) => o.toList
  | _ => []
theorem eml_11 : rml_11.toList = lml_11 := rfl
theorem bodyml : Tryz.f59.body = some (.seq (.region 0 rml_0 false) (.seq (.region 1 rml_1 false) (.seq (.region 2 rml_2 false) (.seq (.region 3 rml_3 false) (.seq (.region 4 rml_4 false) (.seq (.region 5 rml_5 false) (.seq (.region 6 rml_6 false) (.seq (.region 7 rml_7 false) (.seq (.region 8 rml_8 false) (.seq (.region 9 rml_9 false) (.seq (.region 10 rml_10 false) (.seq (.region 11 rml_11 false) .ret)))))))))))) := rfl
-- ntmps 51
noncomputable def rpl_0 : Array Oper := match Tryz.f49.body with
  | some (.seq (.region _ o _) _) => o
  | _ => #[]
noncomputable def lpl_0 : List Oper := match Tryz.f49.body with
  | some (.seq (.region _ o _) _) => o.toList
  | _ => []
theorem epl_0 : rpl_0.toList = lpl_0 := rfl
noncomputable def rpl_1 : Array Oper := match Tryz.f49.body with
  | some (.seq _ (.seq (.region _ o _) _)) => o
  | _ => #[]
noncomputable def lpl_1 : List Oper := match Tryz.f49.body with
  | some (.seq _ (.seq (.region _ o _) _)) => o.toList
  | _ => []
theorem epl_1 : rpl_1.toList = lpl_1 := rfl
noncomputable def rpl_2 : Array Oper := match Tryz.f49.body with
  | some (.seq _ (.seq _ (.seq (.region _ o _) _))) => o
  | _ => #[]
noncomputable def lpl_2 : List Oper := match Tryz.f49.body with
  | some (.seq _ (.seq _ (.seq (.region _ o _) _))) => o.toList
  | _ => []
theorem epl_2 : rpl_2.toList = lpl_2 := rfl
noncomputable def rpl_3 : Array Oper := match Tryz.f49.body with
  | some (.seq _ (.seq _ (.seq _ (.seq (.region _ o _) _)))) => o
  | _ => #[]
noncomputable def lpl_3 : List Oper := match Tryz.f49.body with
  | some (.seq _ (.seq _ (.seq _ (.seq (.region _ o _) _)))) => o.toList
  | _ => []
theorem epl_3 : rpl_3.toList = lpl_3 := rfl
noncomputable def rpl_4 : Array Oper := match Tryz.f49.body with
  | some (.seq _ (.seq _ (.seq _ (.seq _ (.seq (.region _ o _) _))))) => o
  | _ => #[]
noncomputable def lpl_4 : List Oper := match Tryz.f49.body with
  | some (.seq _ (.seq _ (.seq _ (.seq _ (.seq (.region _ o _) _))))) => o.toList
  | _ => []
theorem epl_4 : rpl_4.toList = lpl_4 := rfl
theorem bodypl : Tryz.f49.body = some (.seq (.region 0 rpl_0 false) (.seq (.region 1 rpl_1 false) (.seq (.region 2 rpl_2 false) (.seq (.region 3 rpl_3 false) (.seq (.region 4 rpl_4 false) .ret))))) := rfl
-- ntmps 39
noncomputable def rse_0 : Array Oper := match Tryz.f26.body with
  | some (.seq (.region _ o _) _) => o
  | _ => #[]
noncomputable def lse_0 : List Oper := match Tryz.f26.body with
  | some (.seq (.region _ o _) _) => o.toList
  | _ => []
theorem ese_0 : rse_0.toList = lse_0 := rfl
noncomputable def rse_1 : Array Oper := match Tryz.f26.body with
  | some (.seq _ (.seq (.region _ o _) _)) => o
  | _ => #[]
noncomputable def lse_1 : List Oper := match Tryz.f26.body with
  | some (.seq _ (.seq (.region _ o _) _)) => o.toList
  | _ => []
theorem ese_1 : rse_1.toList = lse_1 := rfl
noncomputable def rse_2 : Array Oper := match Tryz.f26.body with
  | some (.seq _ (.seq _ (.seq (.region _ o _) _))) => o
  | _ => #[]
noncomputable def lse_2 : List Oper := match Tryz.f26.body with
  | some (.seq _ (.seq _ (.seq (.region _ o _) _))) => o.toList
  | _ => []
theorem ese_2 : rse_2.toList = lse_2 := rfl
noncomputable def rse_3 : Array Oper := match Tryz.f26.body with
  | some (.seq _ (.seq _ (.seq _ (.seq (.region _ o _) _)))) => o
  | _ => #[]
noncomputable def lse_3 : List Oper := match Tryz.f26.body with
  | some (.seq _ (.seq _ (.seq _ (.seq (.region _ o _) _)))) => o.toList
  | _ => []
theorem ese_3 : rse_3.toList = lse_3 := rfl
noncomputable def rse_4 : Array Oper := match Tryz.f26.body with
  | some (.seq _ (.seq _ (.seq _ (.seq _ (.seq (.region _ o _) _))))) => o
  | _ => #[]
noncomputable def lse_4 : List Oper := match Tryz.f26.body with
  | some (.seq _ (.seq _ (.seq _ (.seq _ (.seq (.region _ o _) _))))) => o.toList
  | _ => []
theorem ese_4 : rse_4.toList = lse_4 := rfl
theorem bodyse : Tryz.f26.body = some (.seq (.region 0 rse_0 false) (.seq (.region 1 rse_1 false) (.seq (.region 2 rse_2 false) (.seq (.region 3 rse_3 false) (.seq (.region 4 rse_4 false) .ret))))) := rfl
-- ntmps 61
def Ans (self : Self) (f : FuncId) (args : List Value) (v : Value) : Prop := ∀ M : Mem, ainv E self f args M = some (v, M)
theorem wrapU (x : Nat) : wrapF .u64 ((x : Nat) : Int) = ((x % 18446744073709551616 : Nat) : Int) := by simp only [wrapF]; omega
theorem addN (x y : Nat) : abin .add .u64 ((x : Nat) : Int) .u64 ((y : Nat) : Int) = some (.int .u64 (((x + y) % 18446744073709551616 : Nat) : Int)) := by
  have : abin .add .u64 ((x : Nat) : Int) .u64 ((y : Nat) : Int) = some (.int .u64 (wrapF .u64 (((x : Nat) : Int) + ((y : Nat) : Int)))) := by kernel_rfl
  rw [this, ← Int.natCast_add, wrapU]
theorem mulN (x y : Nat) : abin .mul .u64 ((x : Nat) : Int) .u64 ((y : Nat) : Int) = some (.int .u64 (((x * y) % 18446744073709551616 : Nat) : Int)) := by
  have : abin .mul .u64 ((x : Nat) : Int) .u64 ((y : Nat) : Int) = some (.int .u64 (wrapF .u64 (((x : Nat) : Int) * ((y : Nat) : Int)))) := by kernel_rfl
  rw [this, ← Int.natCast_mul, wrapU]
theorem mul19 (y : Nat) : abin .mul .u64 19 .u64 ((y : Nat) : Int) = some (.int .u64 (((19 * y) % 18446744073709551616 : Nat) : Int)) := mulN 19 y
theorem shr32 (x : Nat) : abin .shr .u64 ((x : Nat) : Int) .u64 32 = some (.int .u64 ((x / 4294967296 : Nat) : Int)) := shrU (n := 32) (by decide)
theorem shr63 (x : Nat) : abin .shr .u64 ((x : Nat) : Int) .u64 63 = some (.int .u64 ((x / 9223372036854775808 : Nat) : Int)) := shrU (n := 63) (by decide)
theorem shl1 (x : Nat) : abin .shl .u64 ((x : Nat) : Int) .u64 1 = some (.int .u64 ((x * 2 % 18446744073709551616 : Nat) : Int)) := shlU (n := 1) (by decide)
theorem and_mask {x k : Nat} (hk : k ≤ 64) (hx : x < 18446744073709551616) : abin .and .u64 ((x : Nat) : Int) .u64 (((2 ^ k - 1 : Nat)) : Int) = some (.int .u64 ((x % 2 ^ k : Nat) : Int)) := by
  have hb : 2 ^ k ≤ 2 ^ 64 := Nat.pow_le_pow_right (by decide) hk
  have hpos : 0 < 2 ^ k := Nat.pow_pos (by decide)
  have e1 : (((x : Nat) : Int) % 18446744073709551616).toNat = x := by omega
  have e2 : ((((2 ^ k - 1 : Nat)) : Int) % 18446744073709551616).toNat = 2 ^ k - 1 := by
    generalize 2 ^ k = q at *
    omega
  rw [andU, e1, e2, Nat.and_two_pow_sub_one_eq_mod, wrapU, Nat.mod_eq_of_lt (Nat.lt_of_le_of_lt (Nat.mod_le _ _) hx)]
theorem and32 {x : Nat} (hx : x < 18446744073709551616) : abin .and .u64 ((x : Nat) : Int) .u64 4294967295 = some (.int .u64 ((x % 4294967296 : Nat) : Int)) := and_mask (k := 32) (by decide) hx
theorem and63 {x : Nat} (hx : x < 18446744073709551616) : abin .and .u64 ((x : Nat) : Int) .u64 9223372036854775807 = some (.int .u64 ((x % 9223372036854775808 : Nat) : Int)) := and_mask (k := 63) (by decide) hx
section
variable {self : Self} {nf : Nat} {m : Mem} {x y : Nat}
theorem ml_body (hx : x < 18446744073709551616) (hy : y < 18446744073709551616) :
    abody E self nf 59 [.int .u64 (x : Nat), .int .u64 (y : Nat)] m = some (pair64 (x * y / 18446744073709551616) (x * y % 18446744073709551616), m) := by
  rw [abody_eqF (by kernel_rfl) Tryz.func59 bodyml (by kernel_rfl) (Nat.le_of_ble_eq_true rfl)]
  rw [show Tryz.f59.ntmps = 51 from rfl]
  have a1 := and32 hx
  have a2 := and32 hy
  have a3 : ∀ t : Nat, abin .and .u64 ((t % 18446744073709551616 : Nat) : Int) .u64 4294967295 = some (.int .u64 ((t % 18446744073709551616 % 4294967296 : Nat) : Int)) := fun t => and32 (Nat.mod_lt _ (by decide))
  have hm := mul64_ok hx hy rfl rfl rfl rfl rfl rfl rfl rfl rfl rfl
  simp only [eml_0, eml_1, eml_10, eml_11, eml_2, eml_3, eml_4, eml_5, eml_6, eml_7, eml_8, eml_9, lml_0, lml_1, lml_2, lml_3, lml_4, lml_5, lml_6, lml_7, lml_8, lml_9, lml_10, lml_11, agd_none, gdAt, gdV_bool, gdV_undef, Tryz.f59, List.append_eq, List.cons_append, List.nil_append, apure_call1, apure_call2, apure_call3, bft, btf, acodeN, List.getElem?_toArray, List.getElem?_cons_zero, List.getElem?_cons_succ, aopsN, adrawT, cls, astep, aop, afloat, ev, nth_lst, get_lst, aput, setAt_lst, upd_at, init_zero, init_succ, init_nil, Nat.reduceLT, Nat.reduceEqDiff, reduceIte, abuiltin, alen, Option.map_some, Option.map_none, orElse_some, apure_add, apure_eqlV, eqlVal_str, eqlVal_bool, eqlVal_ptr, eqlVal_slice, eqlVal_wide, eqlVal_int, allT, ↓aop_eqlV, apure_neq, List.map_cons, List.map_nil, List.all_cons, List.all_nil, lit2, lit1, lit0, List.isEmpty_nil, bls, Bool.false_eq_true, if_true, if_false, List.length_map, beq_self_eq_true, uns, a1, a2, a3, shr32, mulN, addN, finish, ares, aresL, ares1, hm]
  rfl
end
end Go.Am.Seat
namespace Go.Am.Seat
open Go.Proofs Go.Am Go.Am.Num
set_option maxHeartbeats 4000000
def tup4 (a b c d : Nat) : Value := .tuple ⟨[.int .u64 (a : Nat), .int .u64 (b : Nat), .int .u64 (c : Nat), .int .u64 (d : Nat)]⟩
def c4 (a b c d : Nat) : List Value := [.int .u64 (a : Nat), .int .u64 (b : Nat), .int .u64 (c : Nat), .int .u64 (d : Nat)]
def st4 (a b c d : Nat) : Value := .agg ⟨c4 a b c d⟩
def el (V : Nat) : Value := st4 (wd 0 V) (wd 1 V) (wd 2 V) (wd 3 V)
theorem callAdd : callableB E.P 60 = false := by kernel_rfl
theorem extAdd : E.ext 60 = some .add64 := by kernel_rfl
theorem callSub : callableB E.P 52 = false := by kernel_rfl
theorem extSub : E.ext 52 = some .sub64 := by kernel_rfl
theorem add64C (x y c : Nat) (m : Mem) : aext .add64 [.int .u64 (x : Nat), .int .u64 (y : Nat), .int .u64 (c : Nat)] m = if c ≤ 1 then some (pair64 ((x + y + c) % 18446744073709551616) ((x + y + c) / 18446744073709551616), m) else none := by
  simp only [aext, Int.toNat_natCast]
theorem add64O (x y : Nat) (m : Mem) : aext .add64 [.int .u64 (x : Nat), .int .u64 (y : Nat), .int .u64 0] m = some (pair64 ((x + y) % 18446744073709551616) ((x + y) / 18446744073709551616), m) := by
  rw [show (0 : Int) = ((0 : Nat) : Int) from rfl, add64C, if_pos (by decide)]
  rfl
theorem add64Z (x c : Nat) (m : Mem) : aext .add64 [.int .u64 (x : Nat), .int .u64 0, .int .u64 (c : Nat)] m = if c ≤ 1 then some (pair64 ((x + c) % 18446744073709551616) ((x + c) / 18446744073709551616), m) else none := by
  rw [show (0 : Int) = ((0 : Nat) : Int) from rfl, add64C]
  rfl
theorem ex0 (a b : Nat) : aextract (pair64 a b) 0 = some (.int .u64 ((a : Nat) : Int)) := rfl
theorem ex1 (a b : Nat) : aextract (pair64 a b) 1 = some (.int .u64 ((b : Nat) : Int)) := rfl
theorem ex40 (a b c d : Nat) : aextract (tup4 a b c d) 0 = some (.int .u64 ((a : Nat) : Int)) := rfl
theorem ex41 (a b c d : Nat) : aextract (tup4 a b c d) 1 = some (.int .u64 ((b : Nat) : Int)) := rfl
theorem ex42 (a b c d : Nat) : aextract (tup4 a b c d) 2 = some (.int .u64 ((c : Nat) : Int)) := rfl
theorem ex43 (a b c d : Nat) : aextract (tup4 a b c d) 3 = some (.int .u64 ((d : Nat) : Int)) := rfl
theorem info48 : ∃ i, E.P.info? 27 = some i ∧ i.size = 4 := info_of (by kernel_rfl)
theorem box48 (a b c d : Nat) (m : Mem) : abox E.P 27 (st4 a b c d) m = some (.pointer (some ⟨m.length, 0, none⟩), m ++ [.row false 27 (c4 a b c d)]) := by
  obtain ⟨i, h1, _⟩ := info48
  unfold abox st4
  have : (c4 a b c d).all cellOk = true := rfl
  simp only [h1, vcells, this, if_true]
theorem alloc48 (m : Mem) : aalloc E.P 27 m = some (.pointer (some ⟨m.length, 0, none⟩), m ++ [.row false 27 (c4 0 0 0 0)]) := by kernel_rfl
theorem load48 {m : Mem} {p : Nat} {ro : Bool} {a b c d : Nat} {e : TypeId} (h : m[p]? = some (.row ro e (c4 a b c d))) : aload E.P 27 (.pointer (some ⟨p, 0, none⟩)) m = some (st4 a b c d) := by
  obtain ⟨i, h1, h2⟩ := info48
  have hu : E.P.underlying 27 = some (.struct (match E.P.underlying 27 with | some (.struct fs) => fs | _ => #[])) := by kernel_rfl
  unfold aload
  rw [hu]
  simp only [lookRow h, aggD, h1, h2]
  rfl
theorem store48 {m : Mem} {p : Nat} {a b c d : Nat} {e : TypeId} {cs : List Value} (h : m[p]? = some (.row false e cs)) (hl : cs.length = 4) : astore E.P 27 (.pointer (some ⟨p, 0, none⟩)) (st4 a b c d) m = some (m.set p (.row false e (c4 a b c d))) := by
  obtain ⟨i, h1, h2⟩ := info48
  have hk : (c4 a b c d).all cellOk = true := rfl
  unfold astore st4
  simp only [h, vcells, hk, if_true, h1, h2]
  rw [if_pos ⟨rfl, by rw [hl]; exact Nat.le_refl _⟩]
  congr 2
  match cs, hl with
  | [_, _, _, _], _ => rfl
theorem fa48_0 (p : Nat) : afieldAddr E.P 27 (.pointer (some ⟨p, 0, none⟩)) 0 = some (.pointer (some ⟨p, 0, none⟩)) := by kernel_rfl
theorem fa48_1 (p : Nat) : afieldAddr E.P 27 (.pointer (some ⟨p, 0, none⟩)) 1 = some (.pointer (some ⟨p, 1, none⟩)) := by kernel_rfl
theorem fa48_2 (p : Nat) : afieldAddr E.P 27 (.pointer (some ⟨p, 0, none⟩)) 2 = some (.pointer (some ⟨p, 2, none⟩)) := by kernel_rfl
theorem fa48_3 (p : Nat) : afieldAddr E.P 27 (.pointer (some ⟨p, 0, none⟩)) 3 = some (.pointer (some ⟨p, 3, none⟩)) := by kernel_rfl
theorem cell4 {m : Mem} {p : Nat} {ro : Bool} {a b c d : Nat} {e : TypeId} (h : m[p]? = some (.row ro e (c4 a b c d))) :
    cellAt m p 0 = some (.int .u64 ((a : Nat) : Int)) ∧ cellAt m p 1 = some (.int .u64 ((b : Nat) : Int)) ∧ cellAt m p 2 = some (.int .u64 ((c : Nat) : Int)) ∧ cellAt m p 3 = some (.int .u64 ((d : Nat) : Int)) := by
  unfold cellAt
  rw [look_row h]
  exact ⟨rfl, rfl, rfl, rfl⟩
noncomputable def apB4 (P : Program) (t ty : TypeId) (a b c d : Value) : Option Value := apure P [a, b, c, d] { dst := none, op := .build t #[(0, .tmp 0), (1, .tmp 1), (2, .tmp 2), (3, .tmp 3)], type := ty, pos := "", after := #[], guard := none }
theorem apure_build4 {P : Program} {T : List Value} {t ty : TypeId} {a b c d : Nat} {pos : String} {af : Array Edge} {gu : Option (Nat × Bool)} {dd : Option Tmp} :
    apure P T { dst := dd, op := .build t #[(0, .tmp a), (1, .tmp b), (2, .tmp c), (3, .tmp d)], type := ty, pos := pos, after := af, guard := gu } = apB4 P t ty (nth T a) (nth T b) (nth T c) (nth T d) := by
  unfold apB4 apure
  simp [Op.operands, execOp, ev, nth_zero, nth_succ]
theorem build48 (a b c d : Nat) : apB4 E.P 27 27 (.int .u64 (a : Nat)) (.int .u64 (b : Nat)) (.int .u64 (c : Nat)) (.int .u64 (d : Nat)) = some (st4 a b c d) := by kernel_rfl
theorem build87 (a b c d : Nat) : apB4 E.P 53 53 (.int .u64 (a : Nat)) (.int .u64 (b : Nat)) (.int .u64 (c : Nat)) (.int .u64 (d : Nat)) = some (st4 a b c d) := by kernel_rfl
theorem ans_of {self : Self} {f : FuncId} {args : List Value} {v : Value} (ha : args.all lit2 = true) (hf : E.fast f = none) (hv : lit2 v = true) (h : ∀ m, ∃ m', self f args m = some (v, m')) : Ans self f args v := by
  intro M
  obtain ⟨m', h'⟩ := h ((M.take E.G).map onlyTab)
  exact ainv_lit ha hf h' hv
section
variable {self : Self} {nf : Nat} {m : Mem} {V n a b c d more : Nat}
theorem pl_body (hn : n < 18446744073709551616) : abody E self nf 49 [.int .u64 (wd 0 V : Nat), .int .u64 (wd 1 V : Nat), .int .u64 (wd 2 V : Nat), .int .u64 (wd 3 V : Nat), .int .u64 (n : Nat)] m = some (tup4 (wd 0 (V + n)) (wd 1 (V + n)) (wd 2 (V + n)) (wd 3 (V + n)), m) := by
  rw [abody_eqF (by kernel_rfl) Tryz.func49 bodypl (by kernel_rfl) (Nat.le_of_ble_eq_true rfl)]
  rw [show Tryz.f49.ntmps = 39 from rfl]
  have l0 := wd_lt 0 V
  have l1 := wd_lt 1 V
  have l2 := wd_lt 2 V
  obtain ⟨h0, h1, h2, h3⟩ := plus_ok V n
  rw [← h0, ← h1, ← h2, ← h3]
  clear h0 h1 h2 h3
  have q1 : (wd 0 V + n) / 18446744073709551616 ≤ 1 := by omega
  have q2 : (wd 1 V + (wd 0 V + n) / 18446744073709551616) / 18446744073709551616 ≤ 1 := by omega
  generalize wd 0 V = w0 at *
  generalize wd 1 V = w1 at *
  generalize wd 2 V = w2 at *
  generalize wd 3 V = w3 at *
  simp only [epl_0, epl_1, epl_2, epl_3, epl_4, lpl_0, lpl_1, lpl_2, lpl_3, lpl_4, agd_none, gdAt, gdV_bool, gdV_undef, Tryz.f49, List.append_eq, List.cons_append, List.nil_append, apure_call1, apure_call2, apure_call3, bft, btf, acodeN, List.getElem?_toArray, List.getElem?_cons_zero, List.getElem?_cons_succ, aopsN, adrawT, cls, astep, aop, afloat, ev, nth_lst, get_lst, aput, setAt_lst, upd_at, init_zero, init_succ, init_nil, Nat.reduceLT, Nat.reduceEqDiff, reduceIte, abuiltin, alen, Option.map_some, Option.map_none, orElse_some, apure_add, apure_eqlV, eqlVal_str, eqlVal_bool, eqlVal_ptr, eqlVal_slice, eqlVal_wide, eqlVal_int, allT, ↓aop_eqlV, apure_neq, List.map_cons, List.map_nil, List.all_cons, List.all_nil, lit2, lit1, lit0, List.isEmpty_nil, bls, Bool.false_eq_true, if_true, if_false, List.length_map, beq_self_eq_true, uns, callAdd, extAdd, add64O, add64Z, ex0, ex1, q1, q2, addN, finish, ares, aresL, ares1]
  rfl
theorem or2 {x y : Nat} (hx : x < 4294967296) (hy : y ≤ 1) : abin .or .u64 ((x * 2 % 18446744073709551616 : Nat) : Int) .u64 ((y : Nat) : Int) = some (.int .u64 ((2 * x + y : Nat) : Int)) := by
  rw [orN (by omega) (by omega), Nat.mod_eq_of_lt (by omega), Nat.mul_comm x 2]
  have := Nat.two_pow_add_eq_or_of_lt (i := 1) (b := y) (by omega) x
  rw [show 2 ^ 1 = 2 from rfl] at this
  rw [← this]
def P25519 : Nat := 57896044618658097711785492504343953926634992332820282019728792003956564819949
theorem callPl : callableB E.P 49 = true := by kernel_rfl
theorem se_body (ha : a < 18446744073709551616) (hb : b < 18446744073709551616) (hc : c < 18446744073709551616) (hd : d < 18446744073709551616) (hm : more < 4294967296)
    (hp : ∀ V n, n < 18446744073709551616 → Ans self 49 [.int .u64 (wd 0 V : Nat), .int .u64 (wd 1 V : Nat), .int .u64 (wd 2 V : Nat), .int .u64 (wd 3 V : Nat), .int .u64 (n : Nat)] (tup4 (wd 0 (V + n)) (wd 1 (V + n)) (wd 2 (V + n)) (wd 3 (V + n)))) :
    ∃ m', abody E self nf 26 [.int .u64 (a : Nat), .int .u64 (b : Nat), .int .u64 (c : Nat), .int .u64 (d : Nat), .int .u64 (more : Nat)] m = some (el ((v4 a b c d + more * 115792089237316195423570985008687907853269984665640564039457584007913129639936) % P25519), m') := by
  rw [abody_eqF (by kernel_rfl) Tryz.func26 bodyse (by kernel_rfl) (Nat.le_of_ble_eq_true rfl)]
  rw [show Tryz.f26.ntmps = 61 from rfl]
  have b1 := alloc48 m
  have gp : (m ++ [Blk.row false 27 (c4 0 0 0 0)])[m.length]? = some (.row false 27 (c4 0 0 0 0)) := by simp
  generalize hM : m ++ [Blk.row false 27 (c4 0 0 0 0)] = M at b1 gp
  have hdd : d % 9223372036854775808 < 18446744073709551616 := by omega
  have hq : d / 9223372036854775808 ≤ 1 := by omega
  have ho := or2 hm hq
  have hn1 : 19 * (2 * more + d / 9223372036854775808) % 18446744073709551616 = 19 * (2 * more + d / 9223372036854775808) := Nat.mod_eq_of_lt (by omega)
  have a1 := and63 hd
  obtain ⟨S, hS⟩ : ∃ S, S = v4 a b c (d % 9223372036854775808) + 19 * (2 * more + d / 9223372036854775808) := ⟨_, rfl⟩
  obtain ⟨w0, w1, w2, w3⟩ := wd_v4 ha hb hc hdd
  have c1 := hp (v4 a b c (d % 9223372036854775808)) (19 * (2 * more + d / 9223372036854775808)) (by omega)
  rw [w0, w1, w2, w3, ← hS] at c1
  have c2 := hp S 19 (by omega)
  rw [show (((19 : Nat)) : Int) = 19 from rfl] at c2
  have hT : wd 3 (S + 19) / 9223372036854775808 ≤ 1 := by have := wd_lt 3 (S + 19); omega
  have hn2 : 19 * (wd 3 (S + 19) / 9223372036854775808) % 18446744073709551616 = 19 * (wd 3 (S + 19) / 9223372036854775808) := Nat.mod_eq_of_lt (by omega)
  obtain ⟨R, hR⟩ : ∃ R, R = S + 19 * (wd 3 (S + 19) / 9223372036854775808) := ⟨_, rfl⟩
  have c3 := hp S (19 * (wd 3 (S + 19) / 9223372036854775808)) (by omega)
  rw [← hR] at c3
  have a2 := and63 (wd_lt 3 R)
  obtain ⟨r0, r1, r2, r3⟩ := settle_ok ha hb hc hd hm rfl hS hR
  unfold el P25519
  rw [← r0, ← r1, ← r2, ← r3]
  have st := store48 (a := wd 0 R) (b := wd 1 R) (c := wd 2 R) (d := wd 3 R % 9223372036854775808) gp rfl
  have ld := load48 (p := m.length) (a := wd 0 R) (b := wd 1 R) (c := wd 2 R) (d := wd 3 R % 9223372036854775808) (m := M.set m.length (.row false 27 (c4 (wd 0 R) (wd 1 R) (wd 2 R) (wd 3 R % 9223372036854775808)))) (by rw [List.getElem?_set_self (lt_of_at gp)])
  clear r0 r1 r2 r3 w0 w1 w2 w3 hp hM
  unfold Ans at c1 c2 c3
  clear hS hR
  generalize wd 0 S = S0 at *
  generalize wd 1 S = S1 at *
  generalize wd 2 S = S2 at *
  generalize wd 3 S = S3 at *
  generalize wd 3 (S + 19) = T3 at *
  generalize wd 0 R = R0 at *
  generalize wd 1 R = R1 at *
  generalize wd 2 R = R2 at *
  generalize wd 3 R = R3 at *
  simp only [ese_0, ese_1, ese_2, ese_3, ese_4, lse_0, lse_1, lse_2, lse_3, lse_4, agd_none, gdAt, gdV_bool, gdV_undef, Tryz.f26, List.append_eq, List.cons_append, List.nil_append, apure_call1, apure_call2, apure_call3, bft, btf, acodeN, List.getElem?_toArray, List.getElem?_cons_zero, List.getElem?_cons_succ, aopsN, adrawT, cls, astep, aop, afloat, ev, nth_lst, get_lst, aput, setAt_lst, upd_at, init_zero, init_succ, init_nil, Nat.reduceLT, Nat.reduceEqDiff, reduceIte, abuiltin, alen, Option.map_some, Option.map_none, orElse_some, apure_add, apure_eqlV, eqlVal_str, eqlVal_bool, eqlVal_ptr, eqlVal_slice, eqlVal_wide, eqlVal_int, allT, ↓aop_eqlV, apure_neq, List.map_cons, List.map_nil, List.all_cons, List.all_nil, lit2, lit1, lit0, List.isEmpty_nil, bls, Bool.false_eq_true, if_true, if_false, List.length_map, beq_self_eq_true, uns, b1, a1, shl1, shr63, ho, mul19, hn1, callPl, c1, ex40, ex41, ex42, ex43, c2, hn2, c3, a2, apure_build4, build48, st, ld, finish, ares, aresL, ares1]
  exact ⟨_, rfl⟩
end
end Go.Am.Seat
namespace Go.Am.Seat
open Go.Proofs Go.Am Go.Am.Num
set_option maxHeartbeats 4000000
noncomputable def rtm_0 : Array Oper := match Tryz.f46.body with
  | some (.seq (.region _ o _) _) => o
  | _ => #[]
noncomputable def ltm_0 : List Oper := match Tryz.f46.body with
  | some (.seq (.region _ o _) _) => o.toList
  | _ => []
theorem etm_0 : rtm_0.toList = ltm_0 := rfl
noncomputable def rtm_1 : Array Oper := match Tryz.f46.body with
  | some (.seq _ (.seq (.region _ o _) _)) => o
  | _ => #[]
noncomputable def ltm_1 : List Oper := match Tryz.f46.body with
  | some (.seq _ (.seq (.region _ o _) _)) => o.toList
  | _ => []
theorem etm_1 : rtm_1.toList = ltm_1 := rfl
noncomputable def rtm_2 : Array Oper := match Tryz.f46.body with
  | some (.seq _ (.seq _ (.seq (.region _ o _) _))) => o
  | _ => #[]
noncomputable def ltm_2 : List Oper := match Tryz.f46.body with
  | some (.seq _ (.seq _ (.seq (.region _ o _) _))) => o.toList
  | _ => []
theorem etm_2 : rtm_2.toList = ltm_2 := rfl
noncomputable def rtm_3 : Array Oper := match Tryz.f46.body with
  | some (.seq _ (.seq _ (.seq _ (.seq (.region _ o _) _)))) => o
  | _ => #[]
noncomputable def ltm_3 : List Oper := match Tryz.f46.body with
  | some (.seq _ (.seq _ (.seq _ (.seq (.region _ o _) _)))) => o.toList
  | _ => []
theorem etm_3 : rtm_3.toList = ltm_3 := rfl
noncomputable def rtm_4 : Array Oper := match Tryz.f46.body with
  | some (.seq _ (.seq _ (.seq _ (.seq _ (.seq (.region _ o _) _))))) => o
  | _ => #[]
noncomputable def ltm_4 : List Oper := match Tryz.f46.body with
  | some (.seq _ (.seq _ (.seq _ (.seq _ (.seq (.region _ o _) _))))) => o.toList
  | _ => []
theorem etm_4 : rtm_4.toList = ltm_4 := rfl
noncomputable def rtm_5 : Array Oper := match Tryz.f46.body with
  | some (.seq _ (.seq _ (.seq _ (.seq _ (.seq _ (.seq (.region _ o _) _)))))) => o
  | _ => #[]
noncomputable def ltm_5 : List Oper := match Tryz.f46.body with
  | some (.seq _ (.seq _ (.seq _ (.seq _ (.seq _ (.seq (.region _ o _) _)))))) => o.toList
  | _ => []
theorem etm_5 : rtm_5.toList = ltm_5 := rfl
noncomputable def rtm_6 : Array Oper := match Tryz.f46.body with
  | some (.seq _ (.seq _ (.seq _ (.seq _ (.seq _ (.seq _ (.seq (.region _ o _) _))))))) => o
  | _ => #[]
noncomputable def ltm_6 : List Oper := match Tryz.f46.body with
  | some (.seq _ (.seq _ (.seq _ (.seq _ (.seq _ (.seq _ (.seq (.region _ o _) _))))))) => o.toList
  | _ => []
theorem etm_6 : rtm_6.toList = ltm_6 := rfl
noncomputable def rtm_7 : Array Oper := match Tryz.f46.body with
  | some (.seq _ (.seq _ (.seq _ (.seq _ (.seq _ (.seq _ (.seq _ (.seq (.region _ o _) _)))))))) => o
  | _ => #[]
noncomputable def ltm_7 : List Oper := match Tryz.f46.body with
  | some (.seq _ (.seq _ (.seq _ (.seq _ (.seq _ (.seq _ (.seq _ (.seq (.region _ o _) _)))))))) => o.toList
  | _ => []
theorem etm_7 : rtm_7.toList = ltm_7 := rfl
noncomputable def rtm_8 : Array Oper := match Tryz.f46.body with
  | some (.seq _ (.seq _ (.seq _ (.seq _ (.seq _ (.seq _ (.seq _ (.seq _ (.seq (.region _ o _) _))))))))) => o
  | _ => #[]
noncomputable def ltm_8 : List Oper := match Tryz.f46.body with
  | some (.seq _ (.seq _ (.seq _ (.seq _ (.seq _ (.seq _ (.seq _ (.seq _ (.seq (.region _ o _) _))))))))) => o.toList
  | _ => []
theorem etm_8 : rtm_8.toList = ltm_8 := rfl
noncomputable def rtm_9 : Array Oper := match Tryz.f46.body with
  | some (.seq _ (.seq _ (.seq _ (.seq _ (.seq _ (.seq _ (.seq _ (.seq _ (.seq _ (.seq (.region _ o _) _)))))))))) => o
  | _ => #[]
noncomputable def ltm_9 : List Oper := match Tryz.f46.body with
  | some (.seq _ (.seq _ (.seq _ (.seq _ (.seq _ (.seq _ (.seq _ (.seq _ (.seq _ (.seq (.region _ o _) _)))))))))) => o.toList
  | _ => []
theorem etm_9 : rtm_9.toList = ltm_9 := rfl
noncomputable def rtm_10 : Array Oper := match Tryz.f46.body with
  | some (.seq _ (.seq _ (.seq _ (.seq _ (.seq _ (.seq _ (.seq _ (.seq _ (.seq _ (.seq _ (.seq (.region _ o _) _))))))))))) => o
  | _ => #[]
noncomputable def ltm_10 : List Oper := match Tryz.f46.body with
  | some (.seq _ (.seq _ (.seq _ (.seq _ (.seq _ (.seq _ (.seq _ (.seq _ (.seq _ (.seq _ (.seq (.region _ o _) _))))))))))) => o.toList
  | _ => []
theorem etm_10 : rtm_10.toList = ltm_10 := rfl
noncomputable def rtm_11 : Array Oper := match Tryz.f46.body with
  | some (.seq _ (.seq _ (.seq _ (.seq _ (.seq _ (.seq _ (.seq _ (.seq _ (.seq _ (.seq _ (.seq _ (.seq (.region _ o _) _)))))))))))) => o
  | _ => #[]
noncomputable def ltm_11 : List Oper := match Tryz.f46.body with
  | some (.seq _ (.seq _ (.seq _ (.seq _ (.seq _ (.seq _ (.seq _ (.seq _ (.seq _ (.seq _ (.seq _ (.seq (.region _ o _) _)))))))))))) => o.toList
  | _ => []
theorem etm_11 : rtm_11.toList = ltm_11 := rfl
noncomputable def rtm_12 : Array Oper := match Tryz.f46.body with
  | some (.seq _ (.seq _ (.seq _ (.seq _ (.seq _ (.seq _ (.seq _ (.seq _ (.seq _ (.seq _ (.seq _ (.seq _ (.seq (.region _ o _) _))))))))))))) => o
  | _ => #[]
noncomputable def ltm_12 : List Oper := match Tryz.f46.body with
  | some (.seq _ (.seq _ (.seq _ (.seq _ (.seq _ (.seq _ (.seq _ (.seq _ (.seq _ (.seq _ (.seq _ (.seq _ (.seq (.region _ o _) _))))))))))))) => o.toList
  | _ => []
theorem etm_12 : rtm_12.toList = ltm_12 := rfl
noncomputable def rtm_13 : Array Oper := match Tryz.f46.body with
  | some (.seq _ (.seq _ (.seq _ (.seq _ (.seq _ (.seq _ (.seq _ (.seq _ (.seq _ (.seq _ (.seq _ (.seq _ (.seq _ (.seq (.region _ o _) _)))))))))))))) => o
  | _ => #[]
noncomputable def ltm_13 : List Oper := match Tryz.f46.body with
  | some (.seq _ (.seq _ (.seq _ (.seq _ (.seq _ (.seq _ (.seq _ (.seq _ (.seq _ (.seq _ (.seq _ (.seq _ (.seq _ (.seq (.region _ o _) _)))))))))))))) => o.toList
  | _ => []
theorem etm_13 : rtm_13.toList = ltm_13 := rfl
theorem bodytm : Tryz.f46.body = some (.seq (.region 0 rtm_0 false) (.seq (.region 1 rtm_1 false) (.seq (.region 2 rtm_2 false) (.seq (.region 3 rtm_3 false) (.seq (.region 4 rtm_4 false) (.seq (.region 5 rtm_5 false) (.seq (.region 6 rtm_6 false) (.seq (.region 7 rtm_7 false) (.seq (.region 8 rtm_8 false) (.seq (.region 9 rtm_9 false) (.seq (.region 10 rtm_10 false) (.seq (.region 11 rtm_11 false) (.seq (.region 12 rtm_12 false) (.seq (.region 13 rtm_13 false) .ret)))))))))))))) := rfl
-- ntmps 111
noncomputable def rfm_0 : Array Oper := match Tryz.f22.body with
  | some (.seq (.region _ o _) _) => o
  | _ => #[]
noncomputable def lfm_0 : List Oper := match Tryz.f22.body with
  | some (.seq (.region _ o _) _) => o.toList
  | _ => []
theorem efm_0 : rfm_0.toList = lfm_0 := rfl
noncomputable def rfm_1 : Array Oper := match Tryz.f22.body with
  | some (.seq _ (.seq (.region _ o _) _)) => o
  | _ => #[]
noncomputable def lfm_1 : List Oper := match Tryz.f22.body with
  | some (.seq _ (.seq (.region _ o _) _)) => o.toList
  | _ => []
theorem efm_1 : rfm_1.toList = lfm_1 := rfl
noncomputable def rfm_2 : Array Oper := match Tryz.f22.body with
  | some (.seq _ (.seq _ (.seq (.seq (.region _ o _) _) _))) => o
  | _ => #[]
noncomputable def lfm_2 : List Oper := match Tryz.f22.body with
  | some (.seq _ (.seq _ (.seq (.seq (.region _ o _) _) _))) => o.toList
  | _ => []
theorem efm_2 : rfm_2.toList = lfm_2 := rfl
noncomputable def lpfm_0 : Code := match Tryz.f22.body with
  | some (.seq _ (.seq _ (.seq (.seq _ (.block _ (.loop c))) _))) => c
  | _ => .skip
noncomputable def rfm_3 : Array Oper := match Tryz.f22.body with
  | some (.seq _ (.seq _ (.seq (.seq _ (.block _ (.loop (.seq (.region _ o _) _)))) _))) => o
  | _ => #[]
noncomputable def lfm_3 : List Oper := match Tryz.f22.body with
  | some (.seq _ (.seq _ (.seq (.seq _ (.block _ (.loop (.seq (.region _ o _) _)))) _))) => o.toList
  | _ => []
theorem efm_3 : rfm_3.toList = lfm_3 := rfl
noncomputable def rfm_4 : Array Oper := match Tryz.f22.body with
  | some (.seq _ (.seq _ (.seq (.seq _ (.block _ (.loop (.seq _ (.seq _ (.seq (.block _ (.seq (.region _ o _) _)) _)))))) _))) => o
  | _ => #[]
noncomputable def lfm_4 : List Oper := match Tryz.f22.body with
  | some (.seq _ (.seq _ (.seq (.seq _ (.block _ (.loop (.seq _ (.seq _ (.seq (.block _ (.seq (.region _ o _) _)) _)))))) _))) => o.toList
  | _ => []
theorem efm_4 : rfm_4.toList = lfm_4 := rfl
noncomputable def rfm_5 : Array Oper := match Tryz.f22.body with
  | some (.seq _ (.seq _ (.seq (.seq _ (.block _ (.loop (.seq _ (.seq _ (.seq (.block _ (.seq _ (.region _ o _))) _)))))) _))) => o
  | _ => #[]
noncomputable def lfm_5 : List Oper := match Tryz.f22.body with
  | some (.seq _ (.seq _ (.seq (.seq _ (.block _ (.loop (.seq _ (.seq _ (.seq (.block _ (.seq _ (.region _ o _))) _)))))) _))) => o.toList
  | _ => []
theorem efm_5 : rfm_5.toList = lfm_5 := rfl
theorem dfm_5 {self : Self} {B : Nat} {T : List Value} {m : Mem} {lb : List (Nat × Nat)} {ls : Bool} : adrawN E self rfm_5 B rfm_5.toList 0 T m lb ls = adrawT E self rfm_5 B rfm_5.toList [(false, false), (false, false), (false, false), (false, false), (false, false), (false, false), (false, false), (false, false), (false, false), (false, false), (false, false), (false, false), (false, false), (false, false), (false, false), (false, false), (false, false), (false, false), (false, false), (false, false), (false, false), (false, false), (false, false), (false, false), (false, false), (false, false), (false, false), (false, false), (false, false), (false, false), (false, false), (false, false), (false, false), (false, false), (false, false), (false, false), (false, false), (false, false), (false, false), (false, false), (false, false), (false, false), (false, false)] 0 T m lb ls := adraw_tab (by kernel_rfl)
theorem sfm_5 : E.sr 5 rfm_5 = false := by kernel_rfl
noncomputable def rfm_6 : Array Oper := match Tryz.f22.body with
  | some (.seq _ (.seq _ (.seq (.seq _ (.block _ (.loop (.seq _ (.seq _ (.seq _ (.region _ o _))))))) _))) => o
  | _ => #[]
noncomputable def lfm_6 : List Oper := match Tryz.f22.body with
  | some (.seq _ (.seq _ (.seq (.seq _ (.block _ (.loop (.seq _ (.seq _ (.seq _ (.region _ o _))))))) _))) => o.toList
  | _ => []
theorem efm_6 : rfm_6.toList = lfm_6 := rfl
theorem lpfm_0_eq : lpfm_0 = (.seq (.region 3 rfm_3 false) (.seq (.cond (.tmp 19) .skip (.exit 0)) (.seq (.block 1 (.seq (.region 4 rfm_4 false) (.region 5 rfm_5 true))) (.region 6 rfm_6 false)))) := rfl
noncomputable def rfm_7 : Array Oper := match Tryz.f22.body with
  | some (.seq _ (.seq _ (.seq _ (.seq (.region _ o _) _)))) => o
  | _ => #[]
noncomputable def lfm_7 : List Oper := match Tryz.f22.body with
  | some (.seq _ (.seq _ (.seq _ (.seq (.region _ o _) _)))) => o.toList
  | _ => []
theorem efm_7 : rfm_7.toList = lfm_7 := rfl
noncomputable def rfm_8 : Array Oper := match Tryz.f22.body with
  | some (.seq _ (.seq _ (.seq _ (.seq _ (.seq (.region _ o _) _))))) => o
  | _ => #[]
noncomputable def lfm_8 : List Oper := match Tryz.f22.body with
  | some (.seq _ (.seq _ (.seq _ (.seq _ (.seq (.region _ o _) _))))) => o.toList
  | _ => []
theorem efm_8 : rfm_8.toList = lfm_8 := rfl
theorem bodyfm : Tryz.f22.body = some (.seq (.region 0 rfm_0 false) (.seq (.region 1 rfm_1 false) (.seq (.seq (.region 2 rfm_2 false) (.block 0 (.loop lpfm_0))) (.seq (.region 7 rfm_7 false) (.seq (.region 8 rfm_8 false) .ret))))) := rfl
-- ntmps 86
def tup5 (a b c d e : Nat) : Value := .tuple ⟨[.int .u64 (a : Nat), .int .u64 (b : Nat), .int .u64 (c : Nat), .int .u64 (d : Nat), .int .u64 (e : Nat)]⟩
theorem ex50 (a b c d e : Nat) : aextract (tup5 a b c d e) 0 = some (.int .u64 ((a : Nat) : Int)) := rfl
theorem ex51 (a b c d e : Nat) : aextract (tup5 a b c d e) 1 = some (.int .u64 ((b : Nat) : Int)) := rfl
theorem ex52 (a b c d e : Nat) : aextract (tup5 a b c d e) 2 = some (.int .u64 ((c : Nat) : Int)) := rfl
theorem ex53 (a b c d e : Nat) : aextract (tup5 a b c d e) 3 = some (.int .u64 ((d : Nat) : Int)) := rfl
theorem ex54 (a b c d e : Nat) : aextract (tup5 a b c d e) 4 = some (.int .u64 ((e : Nat) : Int)) := rfl
theorem callMl : callableB E.P 59 = true := by kernel_rfl
section
variable {self : Self} {nf : Nat} {m : Mem} {x0 x1 x2 x3 n a b c d : Nat}
theorem tm_body (h0 : x0 < 18446744073709551616) (h1 : x1 < 18446744073709551616) (h2 : x2 < 18446744073709551616) (h3 : x3 < 18446744073709551616) (hn : n < 18446744073709551616)
    (ha : a < 18446744073709551616) (hb : b < 18446744073709551616) (hc : c < 18446744073709551616) (hd : d < 18446744073709551616)
    (hml : ∀ x y, x < 18446744073709551616 → y < 18446744073709551616 → Ans self 59 [.int .u64 (x : Nat), .int .u64 (y : Nat)] (pair64 (x * y / 18446744073709551616) (x * y % 18446744073709551616)))
    {V : Nat} (hV : V = v4 x0 x1 x2 x3 * n + v4 a b c d) :
    ∃ m', abody E self nf 46 [st4 x0 x1 x2 x3, .int .u64 (n : Nat), .int .u64 (a : Nat), .int .u64 (b : Nat), .int .u64 (c : Nat), .int .u64 (d : Nat)] m = some (tup5 (wd 0 V) (wd 1 V) (wd 2 V) (wd 3 V) (wd 4 V), m') := by
  rw [abody_eqF (by kernel_rfl) Tryz.func46 bodytm (by kernel_rfl) (Nat.le_of_ble_eq_true rfl)]
  rw [show Tryz.f46.ntmps = 111 from rfl]
  have b1 := box48 x0 x1 x2 x3 m
  have gp : (m ++ [Blk.row false 27 (c4 x0 x1 x2 x3)])[m.length]? = some (.row false 27 (c4 x0 x1 x2 x3)) := by simp
  generalize hM : m ++ [Blk.row false 27 (c4 x0 x1 x2 x3)] = M at b1 gp
  obtain ⟨g0, g1, g2, g3⟩ := cell4 gp
  have m0 := hml x0 n h0 hn
  have m1 := hml x1 n h1 hn
  have m2 := hml x2 n h2 hn
  have m3 := hml x3 n h3 hn
  unfold Ans at m0 m1 m2 m3
  obtain ⟨⟨q1, q2, q3, q4, q5⟩, w0, w1, w2, w3, w4, _⟩ := times_ok h0 h1 h2 h3 hn ha hb hc hd rfl rfl rfl rfl rfl rfl rfl rfl rfl hV
  rw [← w0, ← w1, ← w2, ← w3, ← w4]
  clear w0 w1 w2 w3 w4 hml hM
  generalize x0 * n = p0 at *
  generalize x1 * n = p1 at *
  generalize x2 * n = p2 at *
  generalize x3 * n = p3 at *
  generalize hs1 : p1 % 18446744073709551616 + p0 / 18446744073709551616 = s1 at *
  generalize hs2 : p2 % 18446744073709551616 + p1 / 18446744073709551616 + s1 / 18446744073709551616 = s2 at *
  generalize hs3 : p3 % 18446744073709551616 + p2 / 18446744073709551616 + s2 / 18446744073709551616 = s3 at *
  generalize hk1 : a + p0 % 18446744073709551616 = k1 at *
  generalize hk2 : b + s1 % 18446744073709551616 + k1 / 18446744073709551616 = k2 at *
  generalize hk3 : c + s2 % 18446744073709551616 + k2 / 18446744073709551616 = k3 at *
  generalize hk4 : d + s3 % 18446744073709551616 + k3 / 18446744073709551616 = k4 at *
  simp only [etm_0, etm_1, etm_10, etm_11, etm_12, etm_13, etm_2, etm_3, etm_4, etm_5, etm_6, etm_7, etm_8, etm_9, ltm_0, ltm_1, ltm_2, ltm_3, ltm_4, ltm_5, ltm_6, ltm_7, ltm_8, ltm_9, ltm_10, ltm_11, ltm_12, ltm_13, agd_none, gdAt, gdV_bool, gdV_undef, Tryz.f46, List.append_eq, List.cons_append, List.nil_append, apure_call1, apure_call2, apure_call3, bft, btf, acodeN, List.getElem?_toArray, List.getElem?_cons_zero, List.getElem?_cons_succ, aopsN, adrawT, cls, astep, aop, afloat, ev, nth_lst, get_lst, aput, setAt_lst, upd_at, init_zero, init_succ, init_nil, Nat.reduceLT, Nat.reduceEqDiff, reduceIte, abuiltin, alen, Option.map_some, Option.map_none, orElse_some, apure_add, apure_eqlV, eqlVal_str, eqlVal_bool, eqlVal_ptr, eqlVal_slice, eqlVal_wide, eqlVal_int, allT, ↓aop_eqlV, apure_neq, List.map_cons, List.map_nil, List.all_cons, List.all_nil, lit2, lit1, lit0, List.isEmpty_nil, bls, Bool.false_eq_true, if_true, if_false, List.length_map, beq_self_eq_true, uns, b1, fa48_0, fa48_1, fa48_2, fa48_3, load22, g0, g1, g2, g3, callMl, m0, m1, m2, m3, callAdd, extAdd, add64O, add64C, ex0, ex1, hs1, hs2, hs3, hk1, hk2, hk3, hk4, q1, q2, q3, q4, q5, addN, finish, ares, aresL, ares1]
  exact ⟨_, rfl⟩
end
end Go.Am.Seat
namespace Go.Am.Num
set_option maxHeartbeats 4000000
theorem wd_add (i k S : Nat) : wd (i + k) S = wd k (S / 18446744073709551616 ^ i) := by
  unfold wd
  rw [Nat.pow_add, Nat.div_div_eq_div_mul]
theorem wd_big {k V : Nat} (h : V < 18446744073709551616 ^ k) : wd k V = 0 := by
  unfold wd
  rw [Nat.div_eq_of_lt h]
theorem wd_low {i j : Nat} (h : j < i) (S c : Nat) : wd j (S + c * 18446744073709551616 ^ i) = wd j S := by
  unfold wd
  obtain ⟨d, rfl⟩ : ∃ d, i = j + (d + 1) := ⟨i - j - 1, by omega⟩
  rw [Nat.pow_add, ← Nat.mul_assoc, Nat.mul_right_comm, Nat.add_mul_div_right _ _ (Nat.pow_pos (by decide)), Nat.pow_succ, ← Nat.mul_assoc, Nat.add_mul_mod_self_right]
theorem round_ok {X n S V S' i : Nat} (hX : X < 115792089237316195423570985008687907853269984665640564039457584007913129639936) (hn : n < 18446744073709551616) (hS : S < 18446744073709551616 ^ (i + 4))
    (hV : V = X * n + S / 18446744073709551616 ^ i) (hS' : S' = S + X * n * 18446744073709551616 ^ i) (j : Nat) :
    (if j = i + 4 then wd 4 V else if j = i + 3 then wd 3 V else if j = i + 2 then wd 2 V else if j = i + 1 then wd 1 V else if j = i then wd 0 V else wd j S) = wd j S' := by
  have hpos : 0 < 18446744073709551616 ^ i := Nat.pow_pos (by decide)
  have hd : S' / 18446744073709551616 ^ i = V := by
    rw [hS', Nat.add_mul_div_right _ _ hpos, hV, Nat.add_comm]
  have hw : ∀ k, wd (i + k) S' = wd k V := fun k => by rw [wd_add, hd]
  by_cases h4 : j = i + 4
  · rw [if_pos h4, h4, hw]
  rw [if_neg h4]
  by_cases h3 : j = i + 3
  · rw [if_pos h3, h3, hw]
  rw [if_neg h3]
  by_cases h2 : j = i + 2
  · rw [if_pos h2, h2, hw]
  rw [if_neg h2]
  by_cases h1 : j = i + 1
  · rw [if_pos h1, h1, hw]
  rw [if_neg h1]
  by_cases h0 : j = i
  · rw [if_pos h0, h0, ← hw 0, Nat.add_zero]
  rw [if_neg h0]
  by_cases hl : j < i
  · rw [hS', wd_low hl]
  · obtain ⟨d, rfl⟩ : ∃ d, j = i + (5 + d) := ⟨j - i - 5, by omega⟩
    have hq : S / 18446744073709551616 ^ i < 18446744073709551616 ^ 4 := by
      rw [Nat.div_lt_iff_lt_mul hpos, ← Nat.pow_add, Nat.add_comm 4]
      exact hS
    have hVb : V < 18446744073709551616 ^ 5 := by
      have h := Nat.mul_le_mul (Nat.le_sub_one_of_lt hX) (Nat.le_sub_one_of_lt hn)
      rw [hV]
      have e5 : (18446744073709551616 : Nat) ^ 5 = 115792089237316195423570985008687907853269984665640564039457584007913129639936 * 18446744073709551616 := by decide
      have e4 : (18446744073709551616 : Nat) ^ 4 = 115792089237316195423570985008687907853269984665640564039457584007913129639936 := by decide
      rw [e4] at hq
      rw [e5]
      omega
    have hge : 18446744073709551616 ^ 5 ≤ 18446744073709551616 ^ (5 + d) := Nat.pow_le_pow_right (by decide) (by omega)
    have hge4 : 18446744073709551616 ^ 4 ≤ 18446744073709551616 ^ (5 + d) := Nat.pow_le_pow_right (by decide) (by omega)
    rw [hw, wd_add, wd_big (Nat.lt_of_lt_of_le hVb hge), wd_big (Nat.lt_of_lt_of_le hq hge4)]
theorem prod_step (X Y i : Nat) : X * (Y % 18446744073709551616 ^ (i + 1)) = X * (Y % 18446744073709551616 ^ i) + X * wd i Y * 18446744073709551616 ^ i := by
  rw [Nat.mod_pow_succ, Nat.mul_add, Nat.mul_comm (18446744073709551616 ^ i), Nat.mul_assoc]
  rfl
theorem prod_lt {X : Nat} (hX : X < 115792089237316195423570985008687907853269984665640564039457584007913129639936) (Y i : Nat) : X * (Y % 18446744073709551616 ^ i) < 18446744073709551616 ^ (i + 4) := by
  have hpos : 0 < 18446744073709551616 ^ i := Nat.pow_pos (by decide)
  have h1 : Y % 18446744073709551616 ^ i < 18446744073709551616 ^ i := Nat.mod_lt _ hpos
  have e4 : (18446744073709551616 : Nat) ^ 4 = 115792089237316195423570985008687907853269984665640564039457584007913129639936 := by decide
  rw [Nat.pow_add, e4, Nat.mul_comm]
  exact Nat.mul_lt_mul_of_lt_of_le h1 (Nat.le_of_lt hX) (by omega)
theorem v4_at {i S : Nat} (hS : S < 18446744073709551616 ^ (i + 4)) : v4 (wd i S) (wd (i + 1) S) (wd (i + 2) S) (wd (i + 3) S) = S / 18446744073709551616 ^ i := by
  have hpos : 0 < 18446744073709551616 ^ i := Nat.pow_pos (by decide)
  have h0 : wd i S = wd 0 (S / 18446744073709551616 ^ i) := wd_add i 0 S
  rw [h0, wd_add, wd_add, wd_add]
  apply v4_wd
  have e4 : (18446744073709551616 : Nat) ^ 4 = 115792089237316195423570985008687907853269984665640564039457584007913129639936 := by decide
  rw [← e4, Nat.div_lt_iff_lt_mul hpos, ← Nat.pow_add, Nat.add_comm 4]
  exact hS
theorem v4_low (S : Nat) : v4 (wd 0 S) (wd 1 S) (wd 2 S) (wd 3 S) = S % 115792089237316195423570985008687907853269984665640564039457584007913129639936 := by
  simp only [wd_0, wd_1, wd_2, wd_3, v4]
  omega
theorem fold_ok {S V : Nat} (hS : S < 18446744073709551616 ^ 8) (hV : V = S / 115792089237316195423570985008687907853269984665640564039457584007913129639936 * 38 + S % 115792089237316195423570985008687907853269984665640564039457584007913129639936) :
    wd 4 V < 4294967296 ∧ v4 (wd 0 V) (wd 1 V) (wd 2 V) (wd 3 V) + wd 4 V * 115792089237316195423570985008687907853269984665640564039457584007913129639936 = V ∧
    V % 57896044618658097711785492504343953926634992332820282019728792003956564819949 = S % 57896044618658097711785492504343953926634992332820282019728792003956564819949 := by
  have e8 : (18446744073709551616 : Nat) ^ 8 = 115792089237316195423570985008687907853269984665640564039457584007913129639936 * 115792089237316195423570985008687907853269984665640564039457584007913129639936 := by decide
  rw [e8] at hS
  have hu : S / 115792089237316195423570985008687907853269984665640564039457584007913129639936 < 115792089237316195423570985008687907853269984665640564039457584007913129639936 := by omega
  have hVS : S = V + S / 115792089237316195423570985008687907853269984665640564039457584007913129639936 * 2 * 57896044618658097711785492504343953926634992332820282019728792003956564819949 := by omega
  have hV2 : V < 39 * 115792089237316195423570985008687907853269984665640564039457584007913129639936 := by omega
  have hq : V / 115792089237316195423570985008687907853269984665640564039457584007913129639936 < 39 := by
    clear hVS hV hS hu e8
    omega
  have hw : wd 4 V = V / 115792089237316195423570985008687907853269984665640564039457584007913129639936 := by
    rw [wd_4]
    exact Nat.mod_eq_of_lt (by omega)
  refine ⟨by omega, ?_, ?_⟩
  · rw [v4_low, hw]
    clear hVS hV hS hu e8
    omega
  · have : S % 57896044618658097711785492504343953926634992332820282019728792003956564819949 = (V + S / 115792089237316195423570985008687907853269984665640564039457584007913129639936 * 2 * 57896044618658097711785492504343953926634992332820282019728792003956564819949) % 57896044618658097711785492504343953926634992332820282019728792003956564819949 := congrArg (· % _) hVS
    rw [this, Nat.add_mul_mod_self_right]
end Go.Am.Num
