/- ReadScreen: what l04Read answers, put together. -/
import Derived.Test.YtpcdjpfffanlbaaDoorZRcT
import Derived.Test.YtpcdjpfffanlbaaDoorZRcU
namespace Go.Proofs.YtpcdjpfffanlbaaDoor
open Go.ChangeShapes Go.WideShapes Go.ChangeAt Go.RowKit
set_option linter.unusedVariables false
theorem ok_size {i0 i1 i2 i3 i4 i5 i6 i7 i8 : Int} {t : List UInt8} {L : List (Int × Int)} {m : List ByteArray} (h : okB i0 i1 i2 i3 i4 i5 i6 i7 i8 t L m = true) : sizeB i0 i1 = true ∧ (L.length : Int) = i0 * i1 := by
 unfold okB cellsB at h
 simp only [Bool.and_eq_true, decide_eq_true_eq] at h
 exact ⟨h.1, h.2.2.2.2.2.2.1.1⟩
/-- What l04Read answers, told once. -/
def SlPost (l : List UInt8) (w : World) (e : Ending) (w' : World) : Prop :=
 ∃ (R : Bool) (i0 i1 i2 i3 i4 i5 i6 i7 i8 : Int) (t : ByteArray) (L : List (Int × Int)) (m : List ByteArray) (v u : Value), e = .returned (.tuple #[.agg #[.int .i64 i0, .int .i64 i1, .int .i64 i2, .int .i64 i3, .int .i64 i4, .int .i64 i5, .int .i64 i6, .int .i64 i7, .int .i64 i8, .string t, v, u], .bool R]) ∧ w'.ownsRow w.heap.size 53 2 v L.length (cP L) ∧ w'.ownsRow w.heap.size 9 1 u m.length (cS m) ∧ ((R = true ∧ RsOk l i0 i1 i2 i3 i4 i5 i6 i7 i8 t L m) ∨ (R = false ∧ ∀ j0 j1 j2 j3 j4 j5 j6 j7 j8 x M n, ¬ RsOk l j0 j1 j2 j3 j4 j5 j6 j7 j8 x M n)) ∧ Below w.heap.size w w'
theorem sl_zero {l : List UInt8} {w : World} {e : Ending} {w' : World} (hno : ∀ j0 j1 j2 j3 j4 j5 j6 j7 j8 x M n, ¬ RsOk l j0 j1 j2 j3 j4 j5 j6 j7 j8 x M n) (h : e = .returned (.tuple #[.agg #[.int .i64 0, .int .i64 0, .int .i64 0, .int .i64 0, .int .i64 0, .int .i64 0, .int .i64 0, .int .i64 0, .int .i64 0, .string ⟨#[]⟩, .slice none 0 0, .slice none 0 0], .bool false]) ∧ Below w.heap.size w w') : SlPost l w e w' :=
 ⟨false, 0, 0, 0, 0, 0, 0, 0, 0, 0, ⟨#[]⟩, [], [], .slice none 0 0, .slice none 0 0, h.1, World.ownsRow_nil _ _ _ _, World.ownsRow_nil _ _ _ _, .inr ⟨rfl, hno⟩, h.2⟩
set_option maxHeartbeats 1000000 in
theorem sl04 (s : ByteArray) (hs : s.size ≤ 65536) (w : World) : Calls Tryd.prog 12 #[.string s] w (SlPost s.data.toList w) := by
 have hlen := text_len s
 have hlong : ¬ 65536 < s.data.toList.length := by omega
 cases hrf : rfOf s.data.toList with
 | none =>
  have T1 : Hid (∀ w1, Calls Tryd.prog 22 #[.string s] w1 fun e w' => ∃ v', e = .returned (.tuple #[v', .bool false]) ∧ w'.ownsRow w1.heap.size 9 1 v' 0 (cS []) ∧ Below w1.heap.size w1 w') := fun w1 => (sread s hs w1).mono (by
   rintro e w' ⟨⟨m, v, c, rfl, ho, h | ⟨rfl, rfl, -⟩⟩, hb⟩
   ·rw [hrf] at h; exact absurd h.2 (by simp)
   ·exact ⟨v, rfl, ho, hb⟩)
  exact (src0_none s w T1).mono fun e w' h => sl_zero (fun _ _ _ _ _ _ _ _ _ _ _ _ hu => by obtain ⟨_, _, _, h, -⟩ := hu; rw [hrf] at h; cases h) h
 | some mm =>
  have hsz := rf_shS hlong hrf
  have h60 := rf_lenS hrf
  have T1 : Hid (∀ w1, Calls Tryd.prog 22 #[.string s] w1 fun e w' => ∃ v', e = .returned (.tuple #[v', .bool true]) ∧ w'.ownsRow w1.heap.size 9 1 v' mm.length (cS mm) ∧ Below w1.heap.size w1 w') := fun w1 => (sread s hs w1).mono (by
   rintro e w' ⟨⟨m2, v, c, rfl, ho, ⟨rfl, h⟩ | ⟨-, -, h⟩⟩, hb⟩
   ·rw [hrf] at h; injection h with h; subst h; exact ⟨v, rfl, ho, hb⟩
   ·rw [hrf] at h; exact absurd h (by simp))
  by_cases h3 : mm.length < 3
  ·exact (src0_few s mm.length mm (by omega) w T1).mono fun e w' h => sl_zero (fun _ _ _ _ _ _ _ _ _ _ _ _ hu => by obtain ⟨_, _, _, h, -⟩ := hu; rw [hrf] at h; injection h with h; rw [h] at h3; simp at h3; omega) h
  obtain ⟨d, t, f, rs, rfl⟩ : ∃ d t f rs, mm = d :: t :: f :: rs := by
   match mm, h3 with
   | d :: t' :: f :: rs, _ => exact ⟨d, t', f, rs, rfl⟩
   | [], h => exact absurd (by decide) h
   | [_], h => exact absurd (show (1 : Nat) < 3 by decide) h
   | [_, _], h => exact absurd (show (2 : Nat) < 3 by decide) h
  have hs0 : d.size ≤ 20000 := hsz 0 (by simp)
  have hs1 : t.size ≤ 20000 := hsz 1 (by simp)
  have hs2 : f.size ≤ 20000 := hsz 2 (by simp)
  obtain ⟨rr, hrr⟩ : ∃ rr, rs.length = rr := ⟨_, rfl⟩
  have hml : (d :: t :: f :: rs).length = rr + 3 := by simp [hrr]
  have hr60 : rr + 3 ≤ 60 := by rw [← hml]; exact h60
  have hrz : ∀ k (h : k < rs.length), rs[k].size ≤ 20000 := fun k h => hsz (k + 3) (by simp; omega)
  rw [hml] at T1
  have hin : (∀ j0 j1 j2 j3 j4 j5 j6 j7 j8 M n, d.size = 27 → numsR d.data.toList 9 = [j0, j1, j2, j3, j4, j5, j6, j7, j8] → rfOf f.data.toList = some n → (∀ s ∈ rs, (s.size : Int) = j0 * 4) → M = rowsC j0.toNat rs → okB j0 j1 j2 j3 j4 j5 j6 j7 j8 t.data.toList M n = true → False) → ∀ j0 j1 j2 j3 j4 j5 j6 j7 j8 x M n, ¬ RsOk s.data.toList j0 j1 j2 j3 j4 j5 j6 j7 j8 x M n := fun hF j0 j1 j2 j3 j4 j5 j6 j7 j8 x M n hu => by
   obtain ⟨g0, g1, gs, h, a1, a2, a3, a4, a5, a6⟩ := hu
   rw [hrf] at h
   injection h with h
   injection h with q1 h
   injection h with q2 h
   injection h with q3 q4
   subst q1 q2 q3 q4
   exact hF j0 j1 j2 j3 j4 j5 j6 j7 j8 M n a1 a2 a3 a4 a5 a6
  have T2 : ∀ (good : Bool) (m : List ByteArray), (good = true ∧ rfOf f.data.toList = some m) ∨ (good = false ∧ m = [] ∧ rfOf f.data.toList = none) → Hid (∀ w1, Calls Tryd.prog 22 #[.string f] w1 fun e w' => ∃ v', e = .returned (.tuple #[v', .bool good]) ∧ w'.ownsRow w1.heap.size 9 1 v' m.length (cS m) ∧ Below w1.heap.size w1 w') := fun good m hg w1 => (sread f (by omega) w1).mono (by
   rintro e w' ⟨⟨m2, v, c, rfl, ho, h⟩, hb⟩
   rcases hg with ⟨rfl, h1⟩ | ⟨rfl, rfl, h1⟩
   ·rcases h with ⟨rfl, h⟩ | ⟨-, -, h⟩
    ·rw [h1] at h; injection h with h; subst h; exact ⟨v, rfl, ho, hb⟩
    ·rw [h1] at h; exact absurd h (by simp)
   ·rcases h with ⟨-, h⟩ | ⟨rfl, rfl, -⟩
    ·rw [h1] at h; exact absurd h (by simp)
    ·exact ⟨v, rfl, ho, hb⟩)
  by_cases hm3 : d.size % 3 = 0
  ·obtain ⟨q, hq⟩ : ∃ q, d.size = 3 * q := ⟨d.size / 3, by omega⟩
   cases hff : rfOf f.data.toList with
   | none => exact (src0_hist s d t f rs rr hr60 q hq (by omega) w T1 (T2 false [] (.inr ⟨rfl, rfl, hff⟩))).mono fun e w' h => sl_zero (hin fun _ _ _ _ _ _ _ _ _ _ _ _ _ h _ _ _ => by rw [hff] at h; cases h) h
   | some m =>
    have T3 := T2 true m (.inl ⟨rfl, hff⟩)
    by_cases h9 : q = 9
    ·subst h9
     obtain ⟨i0, i1, i2, i3, i4, i5, i6, i7, i8, hx⟩ := nineS (numsR_len d.data.toList 9)
     have hnum : ∀ {j0 j1 j2 j3 j4 j5 j6 j7 j8 : Int}, numsR d.data.toList 9 = [j0, j1, j2, j3, j4, j5, j6, j7, j8] → j0 = i0 ∧ j1 = i1 ∧ j2 = i2 ∧ j3 = i3 ∧ j4 = i4 ∧ j5 = i5 ∧ j6 = i6 ∧ j7 = i7 ∧ j8 = i8 := fun hy => by
      rw [hx] at hy
      simp only [List.cons.injEq, and_true] at hy
      obtain ⟨e0, e1, e2, e3, e4, e5, e6, e7, e8⟩ := hy
      exact ⟨e0.symm, e1.symm, e2.symm, e3.symm, e4.symm, e5.symm, e6.symm, e7.symm, e8.symm⟩
     cases hszb : sizeB i0 i1 with
     | false =>
      refine (src0_size s d t f rs rr hr60 hq i0 i1 i2 i3 i4 i5 i6 i7 i8 hx hszb m.length m w T1 T3).mono fun e w' h => sl_zero (hin fun j0 j1 j2 j3 j4 j5 j6 j7 j8 M n _ hy _ _ _ hk => ?_) h
      obtain ⟨rfl, rfl, -⟩ := hnum hy
      rw [(ok_size hk).1] at hszb
      cases hszb
     | true =>
      have hw : 2 ≤ i0 ∧ i0 ≤ 24 ∧ 2 ≤ i1 ∧ i1 ≤ 10 := by unfold sizeB at hszb; exact of_decide_eq_true hszb
      by_cases hi1 : (rr : Int) = i1
      ·obtain ⟨W, rfl⟩ : ∃ W : Nat, i0 = (W : Int) := ⟨i0.toNat, by omega⟩
       subst hi1
       refine (srs_rows s d t f rs rr hr60 hrr hrz hq W rr (by omega) (by omega) (by omega) (by omega) rfl i2 i3 i4 i5 i6 i7 i8 hx (by omega) m.length m rfl (Nat.le_trans (rf_lenS hff) (by decide)) (fun k h => Nat.le_trans (rf_shS (by rw [text_len]; omega) hff k h) (by decide)) _ rfl w T1 T3).mono ?_
       rintro e w' (⟨a2, c2, a4, c4, q, hql, rfl, hall, ho2, ho4, hb⟩ | ⟨rfl, ⟨z, hz, h0⟩, hb⟩)
       ·refine ⟨_, _, _, _, _, _, _, _, _, _, t, rowsC W rs, m, _, _, rfl, by rw [hql]; exact ho2, ho4, ?_, hb⟩
        cases hok : okB (W : Int) (rr : Int) i2 i3 i4 i5 i6 i7 i8 t.data.toList (rowsC W rs) m with
        | true => exact .inl ⟨rfl, d, f, rs, hrf, by omega, hx, hff, fun z hz => by have := hall z hz; omega, rfl, hok⟩
        | false =>
         refine .inr ⟨rfl, hin fun j0 j1 j2 j3 j4 j5 j6 j7 j8 M n _ hy hn _ hM hk => ?_⟩
         obtain ⟨rfl, rfl, rfl, rfl, rfl, rfl, rfl, rfl, rfl⟩ := hnum hy
         rw [hff] at hn
         injection hn with hn
         subst hn hM
         have e : (W : Int).toNat = W := by omega
         rw [e, hok] at hk
         cases hk
       ·refine sl_zero (hin fun j0 j1 j2 j3 j4 j5 j6 j7 j8 M n _ hy _ hp _ _ => ?_) ⟨rfl, hb⟩
        obtain ⟨rfl, -⟩ := hnum hy
        have := hp z hz
        omega
      ·refine (src0_len s d t f rs rr hr60 hq i0 i1 i2 i3 i4 i5 i6 i7 i8 hx hszb hi1 m.length m w T1 T3).mono fun e w' h => sl_zero (hin fun j0 j1 j2 j3 j4 j5 j6 j7 j8 M n _ hy _ _ hM hk => ?_) h
       obtain ⟨rfl, rfl, -⟩ := hnum hy
       have e := (ok_size hk).2
       rw [hM, rowsC_len, hrr] at e
       obtain ⟨W, rfl⟩ : ∃ W : Nat, j0 = (W : Int) := ⟨j0.toNat, by omega⟩
       have e1 : (W : Int).toNat = W := by omega
       rw [e1, Int.natCast_mul, Int.mul_comm] at e
       exact hi1 (Int.eq_of_mul_eq_mul_left (by omega) e)
    ·exact (src0_cnt s d t f rs rr hr60 q hq (by omega) h9 m.length m w T1 T3).mono fun e w' h => sl_zero (hin fun _ _ _ _ _ _ _ _ _ _ _ h27 _ _ _ _ _ => by omega) h
  ·cases hff : rfOf f.data.toList with
   | none => exact (src0_form s d t f rs rr hr60 false 0 [] hs0 hm3 w T1 (T2 false [] (.inr ⟨rfl, rfl, hff⟩))).mono fun e w' h => sl_zero (hin fun _ _ _ _ _ _ _ _ _ _ _ h27 _ _ _ _ _ => by omega) h
   | some m => exact (src0_form s d t f rs rr hr60 true m.length m hs0 hm3 w T1 (T2 true m (.inl ⟨rfl, hff⟩))).mono fun e w' h => sl_zero (hin fun _ _ _ _ _ _ _ _ _ _ _ h27 _ _ _ _ _ => by omega) h
end Go.Proofs.YtpcdjpfffanlbaaDoor
