/- ReadToken. Plain mathematics: pieces between blanks, numbers' texts, what a token is. -/
import Derived.Test.YtofkdkglohllpaaGreatDoorZG20
import Derived.Lib.AtoiAllCases
import Derived.Lib.Fields
import Derived.Lib.LastIndexByte
namespace Go.Proofs.YtofkdkglohllpaaGreatDoor
open Go.ChangeShapes Go.WideShapes Go.ChangeAt Go.RowKit
set_option linter.unusedVariables false
def cutS : List UInt8 → List (List UInt8)
  | [] => [[]]
  | b :: r => if b = 32 then [] :: cutS r else match cutS r with | [] => [[b]] | p :: q => (b :: p) :: q
def pre (c : List UInt8) : List (List UInt8) → List (List UInt8)
  | [] => [c]
  | p :: q => (c ++ p) :: q
theorem cutS_ne (l : List UInt8) : cutS l ≠ [] := by
  cases l with
  | nil => simp [cutS]
  | cons b r => unfold cutS; split <;> (try split) <;> simp
theorem cutS_blank (r : List UInt8) : cutS (32 :: r) = [] :: cutS r := by simp [cutS]
theorem cutS_more {b : UInt8} (r : List UInt8) (h : b ≠ 32) : cutS (b :: r) = pre [b] (cutS r) := by
  rw [cutS, if_neg h]; cases cutS r <;> rfl
theorem pre_nil {L : List (List UInt8)} (h : L ≠ []) : pre [] L = L := by cases L with | nil => exact absurd rfl h | cons p q => rfl
theorem pre_pre (a b : List UInt8) (L : List (List UInt8)) : pre a (pre b L) = pre (a ++ b) L := by cases L <;> simp [pre]
theorem cutS_app (p : List UInt8) (h : (32 : UInt8) ∉ p) (r : List UInt8) : cutS (p ++ 32 :: r) = p :: cutS r := by
  induction p with
  | nil => exact cutS_blank r
  | cons b p ih =>
    simp only [List.mem_cons, not_or] at h
    rw [List.cons_append, cutS_more _ (fun e => h.1 e.symm), ih h.2]; rfl
theorem cutS_one (p : List UInt8) (h : (32 : UInt8) ∉ p) : cutS p = [p] := by
  induction p with
  | nil => rfl
  | cons b p ih =>
    simp only [List.mem_cons, not_or] at h
    rw [cutS_more _ (fun e => h.1 e.symm), ih h.2]; rfl
def joinB : List (List UInt8) → List UInt8
  | [] => []
  | [p] => p
  | p :: q => p ++ 32 :: joinB q
theorem joinB_cons (p : List UInt8) {q : List (List UInt8)} (h : q ≠ []) : joinB (p :: q) = p ++ 32 :: joinB q := by
  cases q with | nil => exact absurd rfl h | cons a b => rfl
theorem joinB_pre (b : UInt8) {L : List (List UInt8)} (h : L ≠ []) : joinB (pre [b] L) = b :: joinB L := by
  cases L with
  | nil => exact absurd rfl h
  | cons p q => cases q <;> simp [pre, joinB]
theorem join_cut (l : List UInt8) : joinB (cutS l) = l := by
  induction l with
  | nil => rfl
  | cons b r ih =>
    by_cases h : b = 32
    · subst h; rw [cutS_blank, joinB_cons _ (cutS_ne r), ih]; rfl
    · rw [cutS_more r h, joinB_pre b (cutS_ne r), ih]
theorem cut_no (l : List UInt8) : ∀ p ∈ cutS l, (32 : UInt8) ∉ p := by
  induction l with
  | nil => intro p hp; simp [cutS] at hp; subst hp; simp
  | cons b r ih =>
    by_cases h : b = 32
    · subst h; rw [cutS_blank]; intro p hp; rcases List.mem_cons.1 hp with rfl | hp; simp; exact ih p hp
    · rw [cutS_more r h]
      cases hL : cutS r with
      | nil => exact absurd hL (cutS_ne r)
      | cons q L =>
        rw [hL] at ih
        intro p hp
        rcases List.mem_cons.1 hp with rfl | hp
        · have := ih q (List.mem_cons_self ..)
          simp only [List.singleton_append, List.mem_cons, not_or]
          exact ⟨fun e => h e.symm, this⟩
        · exact ih p (List.mem_cons_of_mem _ hp)
/-- A step of the specification's loop. -/
theorem cut_blank (P : List (List UInt8)) (c r : List UInt8) : P ++ pre c (cutS (32 :: r)) = (P ++ [c]) ++ pre [] (cutS r) := by
  rw [cutS_blank, pre_nil (cutS_ne r)]; simp [pre]
theorem cut_more (P : List (List UInt8)) (c r : List UInt8) (b : UInt8) (h : b ≠ 32) : P ++ pre c (cutS (b :: r)) = P ++ pre (c ++ [b]) (cutS r) := by
  rw [cutS_more r h, pre_pre]
theorem cut_end (P : List (List UInt8)) (c : List UInt8) : P ++ pre c (cutS []) = P ++ [c] := by simp [pre, cutS]

/- Numbers' texts. -/
def valD (l : List UInt8) : Nat := l.foldl (fun n b => n * 10 + (b.toNat - 48)) 0
theorem valD_snoc (l : List UInt8) (b : UInt8) : valD (l ++ [b]) = valD l * 10 + (b.toNat - 48) := by unfold valD; rw [List.foldl_append]; rfl
def digL (l : List UInt8) : Bool := l.all fun b => decide (48 ≤ b.toNat) && decide (b.toNat ≤ 57)
theorem digL_snoc (l : List UInt8) (b : UInt8) : digL (l ++ [b]) = (digL l && (decide (48 ≤ b.toNat) && decide (b.toNat ≤ 57))) := by unfold digL; simp [List.all_append]
theorem revInd {P : List UInt8 → Prop} (h0 : P []) (h1 : ∀ l b, P l → P (l ++ [b])) (l : List UInt8) : P l := by
  have h : ∀ l : List UInt8, P l.reverse := by
    intro l
    induction l with
    | nil => exact h0
    | cons b l ih => rw [List.reverse_cons]; exact h1 _ _ ih
  have h2 := h l.reverse
  rwa [List.reverse_reverse] at h2
theorem valD_lt (l : List UInt8) (h : digL l = true) : valD l < 10 ^ l.length := by
  induction l using revInd with
  | h0 => decide
  | h1 l b ih =>
    rw [digL_snoc] at h
    simp only [Bool.and_eq_true, decide_eq_true_eq] at h
    have := ih h.1
    rw [valD_snoc, List.length_append, List.length_singleton, Nat.pow_succ]
    omega
theorem dec_val (l : List UInt8) (h : digL l = true) (hne : l ≠ []) (h0 : l.head? ≠ some 48 ∨ l.length = 1) : Lib.decDigits (valD l) = l := by
  induction l using revInd with
  | h0 => exact absurd rfl hne
  | h1 l b ih =>
    rw [digL_snoc] at h
    simp only [Bool.and_eq_true, decide_eq_true_eq] at h
    obtain ⟨h1, h2, h3⟩ := h
    have hb : UInt8.ofNat (48 + (b.toNat - 48)) = b := by
      apply UInt8.toNat_inj.1; rw [UInt8.toNat_ofNat']; omega
    rw [valD_snoc]
    cases l with
    | nil =>
      rw [show valD [] = 0 from rfl, dig_small (by omega)]
      simp only [Nat.zero_mul, Nat.zero_add, List.nil_append]
      rw [hb]
    | cons c l =>
      have h4 : (c :: l).head? ≠ some 48 := by
        rcases h0 with h0 | h0
        · simpa using h0
        · simp at h0
      have ih' := ih h1 (by simp) (.inl h4)
      have hpos : valD (c :: l) ≠ 0 := by
        intro hz
        rw [hz, dig_small (by decide)] at ih'
        injection ih' with e1 e2
        exact h4 (by rw [← e1]; rfl)
      have hlen : ¬ valD (c :: l) * 10 + (b.toNat - 48) < 10 := by omega
      rw [dig_more hlen, show (valD (c :: l) * 10 + (b.toNat - 48)) / 10 = valD (c :: l) by omega, show (valD (c :: l) * 10 + (b.toNat - 48)) % 10 = b.toNat - 48 by omega, ih', hb]
def nvG (s : List UInt8) : Bool := s.head? == some 45
def nvD (s : List UInt8) : List UInt8 := if nvG s then s.tail else s
def nvZ (s : List UInt8) : Bool := (nvD s).head? == some 48 && (decide (1 < (nvD s).length) || nvG s)
def nvB (s : List UInt8) : Bool := !((nvD s).length == 0) && (decide ((nvD s).length ≤ 18) && (!nvZ s && digL (nvD s)))
def nvV (s : List UInt8) : Int := if nvG s then -(valD (nvD s) : Int) else (valD (nvD s) : Int)
theorem nv_zt {s : List UInt8} (h : nvB s = true) : Lib.itoa (nvV s) = s := by
  unfold nvB at h
  simp only [Bool.and_eq_true, Bool.not_eq_true', decide_eq_true_eq, beq_eq_false_iff_ne] at h
  obtain ⟨h1, h2, h3, h4⟩ := h
  have hne : nvD s ≠ [] := fun e => h1 (by rw [e]; rfl)
  unfold nvZ at h3
  unfold nvV Lib.itoa
  cases hg : nvG s with
  | false =>
    rw [hg] at h3
    have hd : nvD s = s := by unfold nvD; rw [hg]; rfl
    rw [hd] at h1 h2 h3 h4 hne ⊢
    have h5 : s.head? ≠ some 48 ∨ s.length = 1 := by
      by_cases e : s.head? = some 48
      · right; rw [e] at h3; simp at h3; have : s.length ≠ 0 := h1; omega
      · exact .inl e
    simp only [Bool.false_eq_true, if_false]
    rw [if_neg (by omega), show ((valD s : Nat) : Int).toNat = valD s from Int.toNat_natCast _]
    exact dec_val s h4 hne h5
  | true =>
    rw [hg] at h3
    have h5 : (nvD s).head? ≠ some 48 := by intro e; rw [e] at h3; simp at h3
    have h6 := dec_val (nvD s) h4 hne (.inl h5)
    have hpos : valD (nvD s) ≠ 0 := by
      intro hz; rw [hz, dig_small (by decide)] at h6; exact h5 (by rw [← h6]; rfl)
    simp only [if_true]
    rw [if_pos (by omega), show (-(valD (nvD s) : Int)).natAbs = valD (nvD s) by omega, h6]
    unfold nvD nvG at *
    cases s with
    | nil => simp at hg
    | cons c r => simp at hg; subst hg; simp
/-- Numbers of three digits at most, written out. -/
def dd3 (n : Nat) : List UInt8 := if n < 10 then [UInt8.ofNat (48 + n)] else if n < 100 then [UInt8.ofNat (48 + n / 10), UInt8.ofNat (48 + n % 10)] else [UInt8.ofNat (48 + n / 100), UInt8.ofNat (48 + n / 10 % 10), UInt8.ofNat (48 + n % 10)]
theorem dd3_eq (n : Nat) (h : n < 1000) : Lib.decDigits n = dd3 n := by
  unfold dd3
  split
  · rw [dig_small (by assumption)]
  · split
    · rw [dig_more (by assumption), dig_small (by omega)]; rfl
    · rw [dig_more (by omega), dig_more (by omega), dig_small (by omega), show n / 10 / 10 = n / 100 by omega]; rfl
def zz3 (k : Nat) : List UInt8 := if k = 0 then [45, 49] else dd3 (k - 1)
theorem zz3_eq (n : Int) (h0 : -1 ≤ n) (h1 : n ≤ 200) : Lib.itoa n = zz3 (n + 1).toNat := by
  unfold Lib.itoa zz3
  by_cases h : n < 0
  · obtain rfl : n = -1 := by omega
    rw [if_pos (by decide), if_pos (by decide), dig_small (by decide)]; rfl
  · rw [if_neg h, if_neg (by omega), show (n + 1).toNat - 1 = n.toNat by omega, dd3_eq _ (by omega)]
theorem zz3_all : ∀ k : Fin 202, (nvB (zz3 k.val) = true ∧ nvV (zz3 k.val) = (k.val : Int) - 1) ∧ ((zz3 k.val).all (fun b => decide (b.toNat < 128) && (decide (b ≠ 32) && !(Lib.isSp b))) = true ∧ zz3 k.val ≠ []) ∧ (zz3 k.val).length ≤ 3 := by decide +kernel
end Go.Proofs.YtofkdkglohllpaaGreatDoor
