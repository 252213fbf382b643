/- ReadScreen: what the program answers, its ways put together. -/
import Derived.Test.YtpcdjpfffanlbaaDoorZRsJ
import Derived.Test.YtpcdjpfffanlbaaDoorZFldRT
namespace Go.Proofs.YtpcdjpfffanlbaaDoor
open Go.ChangeShapes Go.WideShapes Go.ChangeAt Go.RowKit
set_option linter.unusedVariables false
theorem nineS {l : List Int} (h : l.length = 9) : ∃ i0 i1 i2 i3 i4 i5 i6 i7 i8, l = [i0, i1, i2, i3, i4, i5, i6, i7, i8] := by
 match l, h with
 | [i0, i1, i2, i3, i4, i5, i6, i7, i8], _ => exact ⟨i0, i1, i2, i3, i4, i5, i6, i7, i8, rfl⟩
theorem num_bdS {f : List UInt8} {i0 i1 i2 i3 i4 i5 i6 i7 i8 : Int} (hx : numsR f 9 = [i0, i1, i2, i3, i4, i5, i6, i7, i8]) (hl : f.length = 27) : -1 ≤ i0 ∧ i0 ≤ 16777214 := by
 have e : numsR f 9 = (List.range 9).map fun k => ((ofBE (chunk f k) : Nat) : Int) - 1 := rfl
 rw [hx] at e
 have e4 := congrArg (fun l => l[0]?) e
 have e4' : i0 = ((ofBE (chunk f 0) : Nat) : Int) - 1 := by simpa using e4
 have hb := ofBE_lt2 (chunk f 0)
 have hl3 : (chunk f 0).length = 3 := by unfold chunk; rw [List.length_take, List.length_drop]; omega
 rw [hl3] at hb
 have : (256 : Nat) ^ 3 = 16777216 := by decide
 omega
theorem rf_lenS {l : List UInt8} {m : List ByteArray} (h : rfOf l = some m) : m.length ≤ 60 := by
 unfold rfOf at h
 split at h
 ·cases h
 ·split at h
  ·cases h
  ·cases hf : fldN (l.drop 1) (ofBE (l.take 1)) with
   | none => rw [hf] at h; cases h
   | some p =>
    rw [hf] at h
    simp only [Option.bind_some] at h
    split at h
    ·injection h with h
     rw [← h, (fldN_len _ _ p.1 p.2 hf).1]
     omega
    ·cases h
theorem rf_shS {l : List UInt8} {m : List ByteArray} (hl : ¬ 65536 < l.length) (h : rfOf l = some m) : ∀ k (hk : k < m.length), m[k].size ≤ 20000 := by
 have h1 := rf_short l
 have h2 : rfL l = m := by unfold rfL; rw [if_neg hl, h]; rfl
 rw [h2] at h1
 exact h1
set_option maxHeartbeats 2000000 in
theorem ireadscreen (a : Option Addr) (cap : Nat) (l : List UInt8) (hl : l.length ≤ 1048576) (hcap : l.length ≤ cap) (i0 i1 i2 i3 i4 i5 i6 i7 i8 : Int) (t : ByteArray) (L : List (Int × Int)) (m : List ByteArray) (c : Int) (HI : RsIs l i0 i1 i2 i3 i4 i5 i6 i7 i8 t L m c) (w : World) (hr : RowV w a (B8 l)) (hE : ErrsIn w) :
  Calls Tryd.prog 6 #[.slice a l.length cap] w fun e w' => ∃ v u, e = .returned (.tuple #[.agg #[.int .i64 i0, .int .i64 i1, .int .i64 i2, .int .i64 i3, .int .i64 i4, .int .i64 i5, .int .i64 i6, .int .i64 i7, .int .i64 i8, .string t, v, u], .int .i64 c]) ∧ w'.ownsRow w.heap.size 53 2 v L.length (cP L) ∧ w'.ownsRow w.heap.size 9 1 u m.length (cS m) ∧ Below w.heap.size w w' := by
 obtain ⟨mm, hmm⟩ : ∃ mm, mm = rfL l := ⟨_, rfl⟩
 obtain ⟨d0, hd⟩ : ∃ d, d = rfC l := ⟨_, rfl⟩
 have T1 : Hid (∀ w1, Below w.heap.size w w1 → Calls Tryd.prog 13 #[.slice a l.length cap] w1 fun e w' => ∃ v', e = .returned (.tuple #[v', .int .i64 d0]) ∧ w'.ownsRow w1.heap.size 9 1 v' mm.length (cS mm) ∧ Below w1.heap.size w1 w') := fun w1 hb => ireadfieldsH a cap l mm d0 hmm hd hl hcap w1 (hr.below hb) (hE.below hb)
 by_cases hlong : 65536 < l.length
 ·have hd2 : d0 = 2 := by rw [hd]; unfold rfC; rw [if_pos hlong]
  rcases HI with ⟨-, h, -⟩ | ⟨rfl, rfl, rfl, rfl, rfl, rfl, rfl, rfl, rfl, rfl, rfl, rfl, ⟨-, rfl⟩ | ⟨h, -⟩⟩
  ·omega
  ·rw [hd2] at T1
   exact irs_bad a cap l.length 2 mm mm.length rfl w T1
  ·omega
 cases hf : rfOf l with
 | none =>
  have hd3 : d0 = 3 := by rw [hd]; unfold rfC; rw [if_neg hlong, hf]; rfl
  rcases HI with ⟨-, -, g0, g1, gs, h, -⟩ | ⟨rfl, rfl, rfl, rfl, rfl, rfl, rfl, rfl, rfl, rfl, rfl, rfl, ⟨h, -⟩ | ⟨-, -, rfl⟩⟩
  ·rw [hf] at h; cases h
  ·omega
  ·rw [hd3] at T1
   exact irs_bad a cap l.length 3 mm mm.length rfl w T1
 | some m' =>
  have hmm' : mm = m' := by rw [hmm]; unfold rfL; rw [if_neg hlong, hf]; rfl
  subst hmm'
  have hd00 : d0 = 0 := by rw [hd]; unfold rfC; rw [if_neg hlong, hf]; rfl
  rw [hd00] at T1
  have h60 := rf_lenS hf
  have hsz := rf_shS hlong hf
  have hcells : ∀ (a1 : Option Addr) (c1 : Nat) (w1 w0 : World), w1.ownsRow w0.heap.size 9 1 (.slice a1 mm.length c1) mm.length (cS mm) → 0 < mm.length → ∃ g, a1 = some ⟨g, 0, none⟩ ∧ (∀ i u, (cS mm)[i]? = some u → w1.cell? ⟨g, i, none⟩ = some u) ∧ g < w1.heap.size ∧ mm.length ≤ c1 := fun a1 c1 w1 w0 ho hn => by
   obtain ⟨g, rfl⟩ := own_atN ho hn
   exact ⟨g, rfl, fun i u hu => own_cellN ho i u hu, (World.ownsRow.lt ho g rfl).2, own_capS ho⟩
  by_cases h3 : mm.length < 3
  ·rcases HI with ⟨-, -, g0, g1, gs, h, -⟩ | ⟨rfl, rfl, rfl, rfl, rfl, rfl, rfl, rfl, rfl, rfl, rfl, rfl, ⟨h, -⟩ | ⟨-, -, rfl⟩⟩
   ·rw [hf] at h; injection h with h; rw [h] at h3; simp at h3; omega
   ·omega
   ·exact irs_no a cap l.length mm mm.length w (fun a1 c1 w1 w0 _ _ => isof_few a1 mm.length c1 h3 w1) T1
  obtain ⟨d, t', f, rs, rfl⟩ : ∃ d t' f rs, mm = d :: t' :: f :: rs := by
   match mm, h3 with
   | d :: t' :: f :: rs, _ => exact ⟨d, t', f, rs, rfl⟩
   | [], h => exact absurd (by decide) h
   | [_], h => exact absurd (show (1 : Nat) < 3 by decide) h
   | [_, _], h => exact absurd (show (2 : Nat) < 3 by decide) h
  have hno : ∀ {P : Prop}, (∀ j0 j1 j2 j3 j4 j5 j6 j7 j8 M n, d.size = 27 → numsR d.data.toList 9 = [j0, j1, j2, j3, j4, j5, j6, j7, j8] → rfOf f.data.toList = some n → (∀ s ∈ rs, (s.size : Int) = j0 * 4) → M = rowsC j0.toNat rs → okB j0 j1 j2 j3 j4 j5 j6 j7 j8 t'.data.toList M n = true → False) → (RsIs l i0 i1 i2 i3 i4 i5 i6 i7 i8 t L m c) → i0 = 0 ∧ i1 = 0 ∧ i2 = 0 ∧ i3 = 0 ∧ i4 = 0 ∧ i5 = 0 ∧ i6 = 0 ∧ i7 = 0 ∧ i8 = 0 ∧ t = ⟨#[]⟩ ∧ L = [] ∧ m = [] ∧ c = 3 := fun hF h => by
   rcases h with ⟨-, -, g0, g1, gs, h, a1, a2, a3, a4, a5, a6⟩ | ⟨h0, h1, h2, h3, h4, h5, h6, h7, h8, h9, h10, h11, ⟨h, -⟩ | ⟨-, -, h12⟩⟩
   ·rw [hf] at h
    injection h with h
    injection h with q1 h
    injection h with q2 h
    injection h with q3 q4
    subst q1 q2 q3 q4
    exact (hF _ _ _ _ _ _ _ _ _ _ _ a1 a2 a3 a4 a5 a6).elim
   ·omega
   ·exact ⟨h0, h1, h2, h3, h4, h5, h6, h7, h8, h9, h10, h11, h12⟩
  have hs0 : d.size ≤ 20000 := hsz 0 (by simp)
  have hs1 : t'.size ≤ 20000 := hsz 1 (by simp)
  have hs2 : f.size ≤ 20000 := hsz 2 (by simp)
  by_cases h27 : d.size = 27
  ·cases hff : rfOf f.data.toList with
   | none =>
    obtain ⟨rfl, rfl, rfl, rfl, rfl, rfl, rfl, rfl, rfl, rfl, rfl, rfl, rfl⟩ := hno (P := True) (fun _ _ _ _ _ _ _ _ _ _ n _ _ h _ _ _ => by rw [hff] at h; cases h) HI
    refine irs_no a cap l.length (d :: t' :: f :: rs) _ w (fun a1 c1 w1 w0 hb ho => ?_) T1
    obtain ⟨g, rfl, hc, hg, hcc⟩ := hcells a1 c1 w1 w0 ho (by simp)
    exact isof_hist g c1 _ (d :: t' :: f :: rs) (show Hid _ from rfl) (by simp) h60 d f rfl rfl h27 hs2 hff w1 (fun i h => hc i _ (by unfold cS; rw [List.getElem?_map, List.getElem?_eq_getElem h]; rfl)) hg (hE.below hb)
   | some n =>
    obtain ⟨j0, j1, j2, j3, j4, j5, j6, j7, j8, hx⟩ := nineS (numsR_len d.data.toList 9)
    have hj0 := num_bdS hx (by rw [sizeT]; exact h27)
    obtain ⟨rr, hrr⟩ : ∃ rr, rs.length = rr := ⟨_, rfl⟩
    have hml : (d :: t' :: f :: rs).length = rr + 3 := by simp [hrr]
    have hr60 : rr + 3 ≤ 60 := by rw [← hml]; exact h60
    have hrz : ∀ k (h : k < rs.length), rs[k].size ≤ 20000 := fun k h => hsz (k + 3) (by simp; omega)
    have hn60 := rf_lenS hff
    have hnz : ∀ k (h : k < n.length), n[k].size ≤ 1048576 := fun k h => Nat.le_trans (rf_shS (by rw [sizeT]; omega) hff k h) (by decide)
    have TV : ∀ (a1 : Option Addr) (c1 : Nat) (w1 w0 : World), Below w.heap.size w w1 → w1.ownsRow w0.heap.size 9 1 (.slice a1 (rr + 3) c1) (rr + 3) (cS (d :: t' :: f :: rs)) → Calls Tryd.prog 14 #[.slice a1 (rr + 3) c1] w1 (SfPost w1 j0 j1 j2 j3 j4 j5 j6 j7 j8 t' n rs j0.toNat) := fun a1 c1 w1 w0 hb ho => by
     obtain ⟨g, rfl, hc, hg, hcc⟩ := hcells a1 c1 w1 w0 (by rw [hml]; exact ho) (by simp)
     exact isof_go g c1 rr hr60 d t' f rs hrr hrz h27 hs2 n hff j0 j1 j2 j3 j4 j5 j6 j7 j8 hx hj0 j0.toNat rfl (by rw [← hml]; exact hcc) w1 hc hg (hE.below hb)
    rw [hml] at T1
    by_cases hrow : ∀ s ∈ rs, (s.size : Int) = j0 * 4
    ·obtain ⟨q, hq⟩ : ∃ q, rs.length * j0.toNat = q := ⟨_, rfl⟩
     have hqL : (rowsC j0.toNat rs).length = q := by rw [rowsC_len]; exact hq
     have hqb : q ≤ 1048576 := by
      rw [← hq]
      cases hrs : rs with
      | nil => simp
      | cons s0 r0 =>
       have e1 := hrow s0 (by rw [hrs]; simp)
       have e2 : s0.size ≤ 20000 := by have := hrz 0 (by rw [hrs]; simp); simpa [hrs] using this
       have e3 : (s0 :: r0).length ≤ 60 := by rw [← hrs]; omega
       have e4 : (s0 :: r0).length * j0.toNat ≤ 60 * 5000 := Nat.mul_le_mul e3 (by omega)
       omega
     obtain ⟨mh, hmh⟩ : ∃ mh, n.length = mh := ⟨_, rfl⟩
     have TY : Hid (∀ (a1 : Option Addr) (c1 : Nat) (w1 w0 : World), Below w.heap.size w w1 → w1.ownsRow w0.heap.size 9 1 (.slice a1 (rr + 3) c1) (rr + 3) (cS (d :: t' :: f :: rs)) → Calls Tryd.prog 14 #[.slice a1 (rr + 3) c1] w1 fun e w' => ∃ a2 c2 a4 c4 lo hi, e = .returned (.tuple #[.agg #[.int .i64 j0, .int .i64 j1, .int .i64 j2, .int .i64 j3, .int .i64 j4, .int .i64 j5, .int .i64 j6, .int .i64 j7, .int .i64 j8, .string t', .slice a2 q c2, .slice a4 mh c4], .bool true]) ∧ w'.ownsRow w1.heap.size 53 2 (.slice a2 q c2) q (cP (rowsC j0.toNat rs)) ∧ Held w' lo hi 9 (.slice a4 mh c4) mh (cS n) ∧ w1.heap.size ≤ lo ∧ Below w1.heap.size w1 w') := fun a1 c1 w1 w0 hb ho => (TV a1 c1 w1 w0 hb ho).mono fun e w' h => by
      rcases h with ⟨a2, c2, a4, c4, mh', lo, hi, he, hm', -, ho2, hh, hlo, -, hb2⟩ | ⟨-, ⟨s, hs, h0⟩, -⟩
      ·have hmm2 : mh' = mh := by rw [hm']; exact hmh
       subst hmm2
       rw [hq] at he ho2
       exact ⟨a2, c2, a4, c4, lo, hi, he, ho2, hh, by omega, hb2⟩
      ·exact absurd (hrow s hs) h0
     cases hok : okB j0 j1 j2 j3 j4 j5 j6 j7 j8 t'.data.toList (rowsC j0.toNat rs) n with
     | false =>
      obtain ⟨rfl, rfl, rfl, rfl, rfl, rfl, rfl, rfl, rfl, rfl, rfl, rfl, rfl⟩ := hno (P := True) (fun _ _ _ _ _ _ _ _ _ _ n2 _ hy hn2 _ hM hk => by
       rw [hx] at hy
       injection hy with e0 hy
       injection hy with e1 hy
       injection hy with e2 hy
       injection hy with e3 hy
       injection hy with e4 hy
       injection hy with e5 hy
       injection hy with e6 hy
       injection hy with e7 hy
       injection hy with e8 hy
       rw [hff] at hn2
       injection hn2 with hn2
       rw [hM, ← hn2, ← e0, ← e1, ← e2, ← e3, ← e4, ← e5, ← e6, ← e7, ← e8, hok] at hk
       cases hk) HI
      exact irs_f a cap l.length (d :: t' :: f :: rs) (rr + 3) j0 j1 j2 j3 j4 j5 j6 j7 j8 t' (rowsC j0.toNat rs) q hqL hqb n mh hmh (by omega) (by omega) hnz w TY hok.symm T1
     | true =>
      have hyes : RsOk l j0 j1 j2 j3 j4 j5 j6 j7 j8 t' (rowsC j0.toNat rs) n := ⟨d, f, rs, hf, h27, hx, hff, hrow, rfl, hok⟩
      rcases HI with ⟨rfl, -, g0, g1, gs, h, -, hy, hn2, -, hM, -⟩ | ⟨rfl, rfl, rfl, rfl, rfl, rfl, rfl, rfl, rfl, rfl, rfl, rfl, ⟨h, -⟩ | ⟨-, hn, rfl⟩⟩
      ·rw [hf] at h
       injection h with h
       injection h with q1 h
       injection h with q2 h
       injection h with q3 q4
       subst q1 q2 q3 q4
       rw [hx] at hy
       injection hy with e0 hy
       injection hy with e1 hy
       injection hy with e2 hy
       injection hy with e3 hy
       injection hy with e4 hy
       injection hy with e5 hy
       injection hy with e6 hy
       injection hy with e7 hy
       injection hy with e8 hy
       rw [hff] at hn2
       injection hn2 with hn2
       subst e0 e1 e2 e3 e4 e5 e6 e7 e8 hn2 hM
       rw [hqL, hmh]
       exact irs_t a cap l.length (d :: t' :: f :: rs) (rr + 3) j0 j1 j2 j3 j4 j5 j6 j7 j8 t' (rowsC j0.toNat rs) q hqL hqb n mh hmh (by omega) (by omega) hnz w TY hok.symm T1
      ·omega
      ·exact absurd hyes (hn _ _ _ _ _ _ _ _ _ _ _ _)
    ·have hex : ∃ s ∈ rs, ¬ (s.size : Int) = j0 * 4 := Classical.byContradiction fun h => hrow fun s hs => Classical.byContradiction fun h0 => h ⟨s, hs, h0⟩
     obtain ⟨rfl, rfl, rfl, rfl, rfl, rfl, rfl, rfl, rfl, rfl, rfl, rfl, rfl⟩ := hno (P := True) (fun _ _ _ _ _ _ _ _ _ _ n2 _ hy _ hro _ _ => by
      rw [hx] at hy
      injection hy with e0 hy
      rw [← e0] at hro
      exact hrow hro) HI
     refine irs_no a cap l.length (d :: t' :: f :: rs) (rr + 3) w (fun a1 c1 w1 w0 hb ho => (TV a1 c1 w1 w0 hb ho).mono fun e w' h => ?_) T1
     rcases h with ⟨a2, c2, a4, c4, mh', lo, hi, -, -, hp, -⟩ | ⟨he, -, hb2⟩
     ·exact absurd hp hrow
     ·exact ⟨he, hb2⟩
  ·obtain ⟨rfl, rfl, rfl, rfl, rfl, rfl, rfl, rfl, rfl, rfl, rfl, rfl, rfl⟩ := hno (P := True) (fun _ _ _ _ _ _ _ _ _ _ _ h _ _ _ _ _ => h27 h) HI
   refine irs_no a cap l.length (d :: t' :: f :: rs) _ w (fun a1 c1 w1 w0 hb ho => ?_) T1
   obtain ⟨g, rfl, hc, hg, hcc⟩ := hcells a1 c1 w1 w0 ho (by simp)
   exact isof_num g c1 _ (d :: t' :: f :: rs) (show Hid _ from rfl) (by simp) h60 d rfl hs0 h27 w1 (fun i h => hc i _ (by unfold cS; rw [List.getElem?_map, List.getElem?_eq_getElem h]; rfl)) hg
end Go.Proofs.YtpcdjpfffanlbaaDoor
