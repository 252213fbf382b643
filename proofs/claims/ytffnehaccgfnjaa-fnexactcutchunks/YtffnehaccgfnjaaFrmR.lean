/- Frames that were put together are read back; of a beginning of them a beginning is read. Plain mathematics. -/
import Derived.Test.YtffnehaccgfnjaaFrmM
import Derived.Test.YtffnehaccgfnjaaBeM
namespace Go.Proofs.Ytffnehaccgfnjaa
open Go.ChangeShapes Go.WideShapes Go.ChangeAt Go.RowKit
theorem chk_lt (l : List UInt8) : 0 ≤ chk l ∧ chk l < 4294967296 := by
  have h := crcL_lt l l.length
  rw [List.take_length] at h
  have h2 : crcL l ^^^ 4294967295 < 2 ^ 32 := Nat.xor_lt_two_pow h (by decide)
  rw [show (2 : Nat) ^ 32 = 4294967296 from rfl] at h2
  unfold chk
  omega
/-- The bytes of a frame. -/
def frmB (d : List UInt8) : List UInt8 := be d.length 3 ++ be (chk (be d.length 3 ++ d)).toNat 4 ++ d
theorem frmB_len (d : List UInt8) : (frmB d).length = 7 + d.length := by
  unfold frmB
  rw [List.length_append, List.length_append, be_len, be_len]
theorem frm_read (d r : List UInt8) (h1 : 1 ≤ d.length) (h2 : d.length ≤ 65536) : frC (frmB d ++ r) = 0 ∧ frN (frmB d ++ r) = d.length ∧ frD (frmB d ++ r) = d ∧ frT (frmB d ++ r) = r := by
  have t3 : (frmB d ++ r).take 3 = be d.length 3 := by unfold frmB; rw [List.append_assoc, List.append_assoc]; exact List.take_left' (be_len _ _)
  have d3 : (frmB d ++ r).drop 3 = be (chk (be d.length 3 ++ d)).toNat 4 ++ (d ++ r) := by unfold frmB; rw [List.append_assoc, List.append_assoc]; exact List.drop_left' (be_len _ _)
  have d7 : (frmB d ++ r).drop 7 = d ++ r := by
    rw [show 7 = 3 + 4 from rfl, ← List.drop_drop, d3]; exact List.drop_left' (be_len _ _)
  have t4 : ((frmB d ++ r).drop 3).take 4 = be (chk (be d.length 3 ++ d)).toNat 4 := by rw [d3]; exact List.take_left' (be_len _ _)
  have hN : frN (frmB d ++ r) = d.length := by unfold frN; rw [t3, ofBE_be]; exact Nat.mod_eq_of_lt (by omega)
  have hl : (frmB d ++ r).length = 7 + d.length + r.length := by rw [List.length_append, frmB_len]
  have hD : ((frmB d ++ r).drop 7).take d.length = d := by rw [d7]; exact List.take_left' rfl
  refine ⟨?_, hN, ?_, ?_⟩
  · unfold frC
    rw [hN, hl, if_neg (by omega), if_neg (by omega), if_neg (by omega), hD, t3, t4, ofBE_be, if_pos]
    have := chk_lt (be d.length 3 ++ d)
    rw [Nat.mod_eq_of_lt (by omega)]
    omega
  · unfold frD; rw [hN, hD]
  · unfold frT; rw [hN, d7]; exact List.drop_left' rfl
def frmsB (ds : List (List UInt8)) : List UInt8 := ds.flatMap frmB
theorem frs_join (ds : List (List UInt8)) (h : ∀ d ∈ ds, 1 ≤ d.length ∧ d.length ≤ 65536) : ∀ f, (frmsB ds).length ≤ f → frs f (frmsB ds) = (ds.map fun d => ⟨d.toArray⟩, (frmsB ds).length, 0) := by
  induction ds with
  | nil => intro f _; exact frs_nil f
  | cons d ds ih =>
    intro f hf
    have hd := h d (List.mem_cons_self ..)
    have e : frmsB (d :: ds) = frmB d ++ frmsB ds := rfl
    rw [e] at hf ⊢
    obtain ⟨c1, c2, c3, c4⟩ := frm_read d (frmsB ds) hd.1 hd.2
    have hl : (frmB d ++ frmsB ds).length = 7 + d.length + (frmsB ds).length := by rw [List.length_append, frmB_len]
    obtain ⟨f', rfl⟩ : ∃ f', f = f' + 1 := ⟨f - 1, by omega⟩
    have hne : frmB d ++ frmsB ds ≠ [] := fun h => by have := congrArg List.length h; rw [hl] at this; simp at this
    rw [frs_step f' hne c1, c2, c3, c4, ih (fun x hx => h x (List.mem_cons_of_mem _ hx)) f' (by omega), hl]
    rfl
theorem frs_le : ∀ (f : Nat) (l : List UInt8), l.length ≤ f → (frs f l).2.1 ≤ l.length ∧ (¬ (frs f l).2.2 = 0 → (frs f l).2.1 < l.length)
  | 0, l, h => by simp [frs]
  | f + 1, l, h => by
    by_cases h0 : l = []
    · subst h0; rw [frs_nil]; simp
    · by_cases h1 : frC l = 0
      · rw [frs_step f h0 h1]
        have := frT_len h1
        obtain ⟨i1, i2⟩ := frs_le f (frT l) (by omega)
        refine ⟨?_, fun h3 => ?_⟩
        · show 7 + frN l + (frs f (frT l)).2.1 ≤ _; omega
        · have := i2 h3; show 7 + frN l + (frs f (frT l)).2.1 < _; omega
      · rw [frs_bad f h0 h1]
        have : 0 < l.length := List.length_pos_iff.2 h0
        exact ⟨Nat.zero_le _, fun _ => this⟩
theorem frs_take : ∀ (f : Nat) (l : List UInt8) (k : Nat), l.length ≤ f → (frs f (l.take k)).1 <+: (frs f l).1
  | 0, l, k, h => by simp [frs]
  | f + 1, l, k, h => by
    by_cases h0 : l.take k = []
    · rw [h0, frs_nil]; exact List.nil_prefix
    · by_cases h1 : frC (l.take k) = 0
      · obtain ⟨g1, g2, g3, g4, g5⟩ := frC_ok h1
        rw [List.length_take] at g1 g4
        have hN : frN (l.take k) = frN l := by unfold frN; rw [List.take_take, Nat.min_eq_left (by omega)]
        rw [hN] at g2 g3 g4
        have hD : frD (l.take k) = frD l := by unfold frD; rw [hN, List.drop_take, List.take_take, Nat.min_eq_left (by omega)]
        have hT : frT (l.take k) = (frT l).take (k - 7 - frN l) := by unfold frT; rw [hN, List.drop_take, List.drop_take]
        have h2 : frC l = 0 := by
          unfold frC
          rw [if_neg (by omega), if_neg (by omega), if_neg (by omega), if_pos]
          have e := g5
          rw [hD, List.take_take, Nat.min_eq_left (by omega), List.drop_take, List.take_take, Nat.min_eq_left (by omega)] at e
          exact e
        have hl0 : l ≠ [] := fun e => h0 (by rw [e]; simp)
        rw [frs_step f h0 h1, frs_step f hl0 h2, hD, hT]
        have := frT_len h2
        exact List.prefix_cons_inj _ |>.2 (frs_take f (frT l) _ (by omega))
      · rw [frs_bad f h0 h1]; exact List.nil_prefix
theorem frs_fuel : ∀ (f g : Nat) (l : List UInt8), l.length ≤ f → l.length ≤ g → frs f l = frs g l
  | 0, g, l, h, h2 => by have : l = [] := List.eq_nil_of_length_eq_zero (by omega); subst this; rw [frs_nil, frs_nil]
  | f + 1, 0, l, h, h2 => by have : l = [] := List.eq_nil_of_length_eq_zero (by omega); subst this; rw [frs_nil, frs_nil]
  | f + 1, g + 1, l, h, h2 => by
    by_cases h0 : l = []
    · subst h0; rw [frs_nil, frs_nil]
    · by_cases h1 : frC l = 0
      · have := frT_len h1
        rw [frs_step f h0 h1, frs_step g h0 h1, frs_fuel f g (frT l) (by omega) (by omega)]
      · rw [frs_bad f h0 h1, frs_bad g h0 h1]
end Go.Proofs.Ytffnehaccgfnjaa
