/-
  Proved: facts on decimal numerals: a numeral is read back as its number, two numbers with one numeral are equal, and what a numeral's first byte and length say. Plain mathematics, no program.
-/
import Derived.Test.YtafehlhmkomeiaaDoorNum
import Derived.Lib.Atoi
import Derived.Lib.AtoiAll
import Derived.Lib.AtoiTie
namespace Go.Proofs.YtafehlhmkomeiaaDoor.Num

theorem decFrom_snoc (c : UInt8) : ∀ (a : List UInt8) (acc : Nat), Lib.decFrom acc (a ++ [c]) = (Lib.decFrom acc a).bind fun n => (Lib.digitVal c).map fun d => n * 10 + d
  | [], acc => by
    simp only [List.nil_append, Lib.decFrom, Option.bind_some]
    cases Lib.digitVal c <;> simp
  | b :: a, acc => by
    simp only [List.cons_append, Lib.decFrom]
    cases Lib.digitVal b with
    | none => simp
    | some d => simp [decFrom_snoc c a]

theorem digitVal_of (d : Nat) (h : d < 10) : Lib.digitVal (UInt8.ofNat (48 + d)) = some d := by
  have e : (UInt8.ofNat (48 + d)).toNat = 48 + d := by rw [UInt8.toNat_ofNat']; omega
  unfold Lib.digitVal
  rw [e, if_pos (by omega)]; congr 1; omega

theorem decFrom_dd (u : Nat) : Lib.decFrom 0 (dd u) = some u := by
  induction u using Nat.strongRecOn with
  | ind u ih =>
    by_cases h : u = 0
    · subst h; rw [dd_zero]; rfl
    · rw [dd_pos u h, decFrom_snoc, ih (u / 10) (by omega), digitVal_of _ (by omega)]
      simp; omega
theorem decFrom_dec (u : Nat) : Lib.decFrom 0 (Lib.decDigits u) = some u := by
  by_cases h : u = 0
  · subst h; rw [Lib.decDigits]; rfl
  · rw [← dd_eq u h, decFrom_dd]
theorem dec_ne (u : Nat) : Lib.decDigits u ≠ [] := by
  rw [Lib.decDigits]; split <;> simp
theorem dec_digit (u k : Nat) (b : UInt8) (h : (Lib.decDigits u)[k]? = some b) : 48 ≤ b.toNat ∧ b.toNat ≤ 57 := by
  obtain ⟨d, hd⟩ := Lib.digit_of_decFrom _ _ _ (decFrom_dec u) k b h
  unfold Lib.digitVal at hd
  split at hd
  · assumption
  · cases hd
theorem dec_len (k u : Nat) (hk : 1 ≤ k) (h : u < 10 ^ k) : (Lib.decDigits u).length ≤ k := by
  by_cases hu : u = 0
  · subst hu; rw [Lib.decDigits]; simpa using hk
  · rw [← dd_eq u hu]; exact dd_len_le k u h

theorem itoa_eq (m : Int) : Lib.itoa m = if m < 0 then 45 :: Lib.decDigits m.natAbs else Lib.decDigits m.natAbs := by
  unfold Lib.itoa
  split
  · rfl
  · congr 1; omega

/-- What stands behind the sign. -/
def body (l : List UInt8) : List UInt8 := if l.head? = some 45 then l.tail else l
theorem head_itoa (m : Int) : (Lib.itoa m).head? = some 45 ↔ m < 0 := by
  rw [itoa_eq]
  split
  · simp_all
  · rename_i h
    constructor
    · intro e
      have := dec_digit m.natAbs 0 45 (by rw [← List.head?_eq_getElem?]; exact e)
      simp at this
    · intro e; exact absurd e h
theorem body_itoa (m : Int) : body (Lib.itoa m) = Lib.decDigits m.natAbs := by
  unfold body
  by_cases h : m < 0
  · rw [if_pos ((head_itoa m).2 h), itoa_eq, if_pos h]; rfl
  · rw [if_neg (fun e => h ((head_itoa m).1 e)), itoa_eq, if_neg h]

/-- The number that a sign and digits spell. -/
def num (l : List UInt8) (n : Nat) : Int := if l.head? = some 45 then -(n : Int) else n
theorem num_itoa (m : Int) (n : Nat) (h : Lib.decFrom 0 (body (Lib.itoa m)) = some n) : num (Lib.itoa m) n = m := by
  rw [body_itoa, decFrom_dec] at h
  have e : m.natAbs = n := Option.some.inj h
  unfold num
  by_cases hm : m < 0
  · rw [if_pos ((head_itoa m).2 hm)]; omega
  · rw [if_neg (fun e => hm ((head_itoa m).1 e))]; omega
theorem itoa_inj {m k : Int} (h : Lib.itoa m = Lib.itoa k) : m = k := by
  have h1 := num_itoa m m.natAbs (by rw [body_itoa, decFrom_dec])
  have h2 := num_itoa k m.natAbs (by rw [← h, body_itoa, decFrom_dec])
  rw [h] at h1; omega

theorem decNat_dec (u : Nat) : Lib.decNat (Lib.decDigits u) = some u := by
  unfold Lib.decNat
  have := dec_ne u
  rw [if_neg (by simpa using this), decFrom_dec]
theorem atoi_itoa (m : Int) : Lib.atoi (Lib.itoa m) = some m := by
  rw [itoa_eq]
  split
  · simp only [Lib.atoi]
    rw [if_pos (by decide), decNat_dec]; simp; omega
  · cases hd : Lib.decDigits m.natAbs with
    | nil => exact absurd hd (dec_ne _)
    | cons b r =>
      have hb := dec_digit m.natAbs 0 b (by rw [hd]; rfl)
      have h1 : (b == 45) = false := by
        rw [beq_eq_false_iff_ne]; intro e; subst e; simp at hb
      have h2 : (b == 43) = false := by
        rw [beq_eq_false_iff_ne]; intro e; subst e; simp at hb
      simp only [Lib.atoi, h1, h2]
      rw [← hd, decNat_dec]; simp; omega
theorem atoiAll_itoa (m : Int) (h : m.natAbs < 10 ^ 17) : Lib.atoiAll (Lib.itoa m) = .ok m := by
  have hl := dec_len 17 m.natAbs (by omega) h
  rw [Lib.atoiAll_short, atoi_itoa]; rfl
  rw [itoa_eq]; split
  · simp; omega
  · omega

/-- What a parser answers that accepts exactly the numerals of the numbers from lo to hi. -/
def Reads (lo hi : Int) (l : List UInt8) (n : Int) (ok : Bool) : Prop :=
  (ok = true ∧ Lib.itoa n = l ∧ lo ≤ n ∧ n ≤ hi) ∨ (ok = false ∧ n = 0 ∧ ∀ m, lo ≤ m → m ≤ hi → Lib.itoa m ≠ l)
theorem Reads.unique {lo hi : Int} {l : List UInt8} {n n' : Int} {ok ok' : Bool} (h : Reads lo hi l n ok) (h' : Reads lo hi l n' ok') : n = n' ∧ ok = ok' := by
  rcases h with ⟨rfl, e, a, b⟩ | ⟨rfl, rfl, f⟩ <;> rcases h' with ⟨rfl, e', a', b'⟩ | ⟨rfl, rfl, f'⟩
  · exact ⟨itoa_inj (e.trans e'.symm), rfl⟩
  · exact absurd e (f' n a b)
  · exact absurd e' (f n' a' b')
  · exact ⟨rfl, rfl⟩

theorem decFrom_lt : ∀ (l : List UInt8) (acc k n : Nat), acc < 10 ^ k → Lib.decFrom acc l = some n → n < 10 ^ (k + l.length)
  | [], acc, k, n, h, e => by simp [Lib.decFrom] at e; subst e; simpa using h
  | b :: r, acc, k, n, h, e => by
    simp only [Lib.decFrom] at e
    cases hd : Lib.digitVal b with
    | none => simp [hd] at e
    | some d =>
      simp only [hd] at e
      have hlt : d < 10 := by
        unfold Lib.digitVal at hd
        split at hd
        · cases hd; omega
        · cases hd
      have := decFrom_lt r (acc * 10 + d) (k + 1) n (by rw [Nat.pow_succ]; omega) e
      rw [List.length_cons, show k + (r.length + 1) = k + 1 + r.length from by omega]; exact this
theorem decFrom_stop : ∀ (l : List UInt8) (k acc a : Nat) (b : UInt8), Lib.decFrom acc (l.take k) = some a → l[k]? = some b → Lib.digitVal b = none → Lib.decFrom acc l = none
  | [], k, acc, a, b, _, hb, _ => by simp at hb
  | c :: r, 0, acc, a, b, _, hb, hn => by
    simp only [List.getElem?_cons_zero, Option.some.injEq] at hb
    subst hb; simp [Lib.decFrom, hn]
  | c :: r, k + 1, acc, a, b, h, hb, hn => by
    simp only [List.take_succ_cons, Lib.decFrom] at h ⊢
    cases hd : Lib.digitVal c with
    | none => rfl
    | some d =>
      simp only [hd] at h ⊢
      exact decFrom_stop r k _ a b h (by simpa using hb) hn

theorem byte_at (t : ByteArray) (k : Nat) (h : k < t.size) : t.data.toList[k]? = some t[k] := by
  rw [List.getElem?_eq_getElem (by simpa using h)]; rfl
theorem digit_yes (b : UInt8) (h : 48 ≤ b.toNat ∧ b.toNat ≤ 57) : Lib.digitVal b = some (b.toNat - 48) := by
  unfold Lib.digitVal; rw [if_pos h]
theorem digit_no (b : UInt8) (h : ¬ (48 ≤ b.toNat ∧ b.toNat ≤ 57)) : Lib.digitVal b = none := by
  unfold Lib.digitVal; rw [if_neg h]
theorem step_lt (a k d : Nat) (ha : a < 10 ^ k) (hd : d < 10) : a * 10 + d < 10 ^ (k + 1) := by
  rw [Nat.pow_succ]; omega
/-- The number of digits bounds the number. -/
def lim (most : Nat) : Int := (10 ^ most : Nat) - 1
theorem abs_lim (most : Nat) (m : Int) : (-(lim most) ≤ m ∧ m ≤ lim most) ↔ m.natAbs < 10 ^ most := by
  unfold lim
  have : 1 ≤ 10 ^ most := Nat.pos_of_ne_zero (by simp)
  omega
theorem no_len (most : Nat) (l : List UInt8) (h1 : 1 ≤ most) (h : (body l).length < 1 ∨ most < (body l).length) : Reads (-(lim most)) (lim most) l 0 false := by
  refine Or.inr ⟨rfl, rfl, fun m a b e => ?_⟩
  subst e
  have hm := (abs_lim most m).1 ⟨a, b⟩
  rw [body_itoa] at h
  have hl := dec_len most m.natAbs h1 hm
  have hn : (Lib.decDigits m.natAbs).length ≠ 0 := by
    intro e; exact dec_ne _ (List.length_eq_zero_iff.1 e)
  omega
theorem no_dec (lo hi : Int) (l : List UInt8) (h : Lib.decFrom 0 (body l) = none) : Reads lo hi l 0 false := by
  refine Or.inr ⟨rfl, rfl, fun m _ _ e => ?_⟩
  subst e
  rw [body_itoa, decFrom_dec] at h; cases h
theorem no_spell (lo hi : Int) (l : List UInt8) (n : Nat) (h : Lib.decFrom 0 (body l) = some n) (hne : Lib.itoa (num l n) ≠ l) : Reads lo hi l 0 false := by
  refine Or.inr ⟨rfl, rfl, fun m _ _ e => ?_⟩
  subst e
  exact hne (by rw [num_itoa m n h])
theorem num_abs (l : List UInt8) (n : Nat) : (num l n).natAbs = n := by
  unfold num; split <;> omega
theorem yes (most : Nat) (l : List UInt8) (n : Nat) (h : Lib.decFrom 0 (body l) = some n) (hl : (body l).length ≤ most) (he : Lib.itoa (num l n) = l) : Reads (-(lim most)) (lim most) l (num l n) true := by
  have hlt := decFrom_lt (body l) 0 0 n (by simp) h
  have hp : 10 ^ (0 + (body l).length) ≤ 10 ^ most := Nat.pow_le_pow_right (by omega) (by omega)
  have := (abs_lim most (num l n)).2 (by rw [num_abs]; omega)
  exact Or.inl ⟨rfl, he, this.1, this.2⟩
end Go.Proofs.YtafehlhmkomeiaaDoor.Num
