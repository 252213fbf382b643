/- impl.screenOf: the ways that end with nothing. -/
import Derived.Test.YtpcdjpfffanlbaaDoorZCofI
import Derived.Test.YtpcdjpfffanlbaaDoorZReadFT
import Derived.Test.YtpcdjpfffanlbaaDoorZReadNumI
import Derived.Test.YtpcdjpfffanlbaaDoorZG20
import Derived.Test.YtpcdjpfffanlbaaDoorZBf
import Derived.Lib.SmallJoins
namespace Go.Proofs.YtpcdjpfffanlbaaDoor
open Go.ChangeShapes Go.WideShapes Go.ChangeAt Go.RowKit
set_option linter.unusedVariables false
theorem to_bytesS (w : World) (s : ByteArray) : ∃ w' cap, (convert 9 22 (.string s)).run Tryd.prog w = .ok (.slice (some ⟨w.heap.size, 0, none⟩) s.size cap) w' ∧ RowV w' (some ⟨w.heap.size, 0, none⟩) (B8 s.data.toList) ∧ s.size ≤ cap ∧ Below w.heap.size w w' :=
 ⟨_, _, Go.Lib.run_convert_string_bytes w _ _ 5 s Tryd.underlying9 Tryd.underlying22 Tryd.underlying5, row8_V (bytes_rowT w s), grownCap_ge _ _ _ _, bytes_belowT w s⟩
theorem rn27 (s : ByteArray) (hs : s.size ≤ 20000) : (rnC s.data.toList = 0 ∧ (rnL s.data.toList).length = 9) ↔ s.size = 27 := by
 have hlen : s.data.toList.length = s.size := sizeT s
 by_cases e3 : s.data.toList.length % 3 = 0
 ·by_cases e4 : 4096 < s.data.toList.length / 3
  ·have h5 := rn_many (l := s.data.toList) (by omega) e3 e4
   rw [h5.1, h5.2]
   constructor
   ·intro h; exact absurd h.1 (by decide)
   ·intro h; omega
  ·have h5 := rn_ok (l := s.data.toList) (by omega) e3 e4
   rw [h5.1, h5.2, numsR_len]
   constructor
   ·intro h; have := h.2; omega
   ·intro h; exact ⟨rfl, by omega⟩
 ·have h5 := rn_form (l := s.data.toList) (by omega) e3
  rw [h5.1, h5.2]
  constructor
  ·intro h; exact absurd h.1 (by decide)
  ·intro h; omega
set_option maxHeartbeats 4000000 in
set_option maxRecDepth 100000 in
theorem isof_few (a : Option Addr) (n cap : Nat) (hn : n < 3) (w : World) :
  Calls Tryd.prog 14 #[.slice a n cap] w fun e w' => e = .returned (.tuple #[.agg #[.int .i64 0, .int .i64 0, .int .i64 0, .int .i64 0, .int .i64 0, .int .i64 0, .int .i64 0, .int .i64 0, .int .i64 0, .string ⟨#[]⟩, .slice none 0 0, .slice none 0 0], .bool false]) ∧ Below w.heap.size w w' := by
 have h2 : (n : Int) < 3 := by omega
 go_enter Tryd.func14, Tryd.ntmps14
 go_wp2_with fail
 refine bodyPost_ret (v := .tuple #[.agg #[.int .i64 0, .int .i64 0, .int .i64 0, .int .i64 0, .int .i64 0, .int .i64 0, .int .i64 0, .int .i64 0, .int .i64 0, .string ⟨#[]⟩, .slice none 0 0, .slice none 0 0], .bool false]) (by simp [results, Tryd.results14, go_sem]) rfl ⟨rfl, ?_⟩
 exact Go.Joins.below_alloc1 w _
set_option maxHeartbeats 4000000 in
set_option maxRecDepth 100000 in
theorem isof_num (g cap n : Nat) (L : List ByteArray) (HN : Hid (L.length = n)) (hn : 3 ≤ n) (hn2 : n ≤ 60) (d : ByteArray) (h0 : L[0]'(by rw [unhide HN]; omega) = d) (hd : d.size ≤ 20000) (h27 : ¬ d.size = 27) (w : World) (hr : ∀ i (h : i < L.length), w.cell? ⟨g, i, none⟩ = some (.string L[i])) (hg : g < w.heap.size) :
  Calls Tryd.prog 14 #[.slice (some ⟨g, 0, none⟩) n cap] w fun e w' => e = .returned (.tuple #[.agg #[.int .i64 0, .int .i64 0, .int .i64 0, .int .i64 0, .int .i64 0, .int .i64 0, .int .i64 0, .int .i64 0, .int .i64 0, .string ⟨#[]⟩, .slice none 0 0, .slice none 0 0], .bool false]) ∧ Below w.heap.size w w' := by
 have HB := hide (Go.Joins.below_alloc1 w (Obj.cells #[.int .i64 0, .int .i64 0, .int .i64 0, .int .i64 0, .int .i64 0, .int .i64 0, .int .i64 0, .int .i64 0, .int .i64 0, .string ⟨#[]⟩, .slice none 0 0, .slice none 0 0] 26))
 have RS := hide (BF.new w #[.int .i64 0, .int .i64 0, .int .i64 0, .int .i64 0, .int .i64 0, .int .i64 0, .int .i64 0, .int .i64 0, .int .i64 0, .string ⟨#[]⟩, .slice none 0 0, .slice none 0 0] 26)
 have c0 : (w.alloc (Obj.cells #[.int .i64 0, .int .i64 0, .int .i64 0, .int .i64 0, .int .i64 0, .int .i64 0, .int .i64 0, .int .i64 0, .int .i64 0, .string ⟨#[]⟩, .slice none 0 0, .slice none 0 0] 26)).cell? ⟨g, 0, none⟩ = some (.string d) := ((unhide HB).cell (p := ⟨g, 0, none⟩) hg).trans (by rw [← h0]; exact hr 0 _)
 have hlen : d.data.toList.length = d.size := sizeT d
 obtain ⟨w1, q, q1, q2, q3, q4⟩ := to_bytesS (w.alloc (Obj.cells #[.int .i64 0, .int .i64 0, .int .i64 0, .int .i64 0, .int .i64 0, .int .i64 0, .int .i64 0, .int .i64 0, .int .i64 0, .string ⟨#[]⟩, .slice none 0 0, .slice none 0 0] 26)) d
 obtain ⟨c, hc⟩ : ∃ c, c = rnC d.data.toList := ⟨_, rfl⟩
 obtain ⟨R, hR⟩ : ∃ R, R = rnL d.data.toList := ⟨_, rfl⟩
 obtain ⟨k, hk⟩ : ∃ k, k = R.length := ⟨_, rfl⟩
 have T := ireadnumsH _ q d.data.toList R c hR hc (by omega) (by omega) w1 q2
 rw [hlen, ← hk] at T
 have HT := hide T
 have hno : ¬ (c = 0 ∧ k = 9) := fun h => h27 ((rn27 d hd).1 (by rw [← hc, ← hR, ← hk]; exact h))
 have HB1 := hide ((unhide HB).trans (q4.mono (unhide HB).size))
 have RS1 := hide ((unhide RS).below q4)
 have n3 : ¬ (n : Int) < 3 := by omega
 have n0 : (0 : Int) < (n : Int) := by omega
 have hsz : (w.alloc (Obj.cells #[.int .i64 0, .int .i64 0, .int .i64 0, .int .i64 0, .int .i64 0, .int .i64 0, .int .i64 0, .int .i64 0, .int .i64 0, .string ⟨#[]⟩, .slice none 0 0, .slice none 0 0] 26)).heap.size = w.heap.size + 1 := by simp
 rw [hsz] at q1 HT
 clear T hr h0 hd h27 hlen hc hR hk q2 q3 q4 HB RS hsz
 go_enter Tryd.func14, Tryd.ntmps14
 go_wp2_with fail
 refine (unhide HT).mono ?_
 rintro e w2 ⟨v2, rfl, o2, hb2⟩
 obtain ⟨a2, c2, rfl, -⟩ := own_rowV o2
 have HB2 := hide ((unhide HB1).trans (hb2.mono (unhide HB1).size))
 have RS2 := hide ((unhide RS1).below hb2)
 have z := (unhide RS2).S
 have zf := (unhide RS2).F
 clear o2 hb2 HT q1 c0 HB1 RS1
 by_cases e0 : c = 0
 ·have e9 : ((k : Int) == 9) = false := by rw [beq_eq_false_iff_ne]; omega
  clear hno
  subst e0
  go_wp2_with fail
  refine bodyPost_ret (v := .tuple #[.agg #[.int .i64 0, .int .i64 0, .int .i64 0, .int .i64 0, .int .i64 0, .int .i64 0, .int .i64 0, .int .i64 0, .int .i64 0, .string ⟨#[]⟩, .slice none 0 0, .slice none 0 0], .bool false]) (by simp [results, Tryd.results14, go_sem, z]) rfl ⟨rfl, ?_⟩
  iterate 12 refine Below.setCell ?_ (by exact Nat.le_refl _) _
  exact unhide HB2
 ·have e9 : (c == 0) = false := beq_eq_false_iff_ne.2 e0
  clear hno
  go_wp2_with fail
  refine bodyPost_ret (v := .tuple #[.agg #[.int .i64 0, .int .i64 0, .int .i64 0, .int .i64 0, .int .i64 0, .int .i64 0, .int .i64 0, .int .i64 0, .int .i64 0, .string ⟨#[]⟩, .slice none 0 0, .slice none 0 0], .bool false]) (by simp [results, Tryd.results14, go_sem, z]) rfl ⟨rfl, ?_⟩
  iterate 12 refine Below.setCell ?_ (by exact Nat.le_refl _) _
  exact unhide HB2
set_option maxHeartbeats 4000000 in
set_option maxRecDepth 100000 in
theorem isof_hist (g cap n : Nat) (L : List ByteArray) (HN : Hid (L.length = n)) (hn : 3 ≤ n) (hn2 : n ≤ 60) (d f : ByteArray) (h0 : L[0]'(by rw [unhide HN]; omega) = d) (h2 : L[2]'(by rw [unhide HN]; omega) = f) (h27 : d.size = 27) (hf : f.size ≤ 20000) (hno : rfOf f.data.toList = none) (w : World) (hr : ∀ i (h : i < L.length), w.cell? ⟨g, i, none⟩ = some (.string L[i])) (hg : g < w.heap.size) (hE : ErrsIn w) :
  Calls Tryd.prog 14 #[.slice (some ⟨g, 0, none⟩) n cap] w fun e w' => e = .returned (.tuple #[.agg #[.int .i64 0, .int .i64 0, .int .i64 0, .int .i64 0, .int .i64 0, .int .i64 0, .int .i64 0, .int .i64 0, .int .i64 0, .string ⟨#[]⟩, .slice none 0 0, .slice none 0 0], .bool false]) ∧ Below w.heap.size w w' := by
 have HB := hide (Go.Joins.below_alloc1 w (Obj.cells #[.int .i64 0, .int .i64 0, .int .i64 0, .int .i64 0, .int .i64 0, .int .i64 0, .int .i64 0, .int .i64 0, .int .i64 0, .string ⟨#[]⟩, .slice none 0 0, .slice none 0 0] 26))
 have RS := hide (BF.new w #[.int .i64 0, .int .i64 0, .int .i64 0, .int .i64 0, .int .i64 0, .int .i64 0, .int .i64 0, .int .i64 0, .int .i64 0, .string ⟨#[]⟩, .slice none 0 0, .slice none 0 0] 26)
 have c0 : (w.alloc (Obj.cells #[.int .i64 0, .int .i64 0, .int .i64 0, .int .i64 0, .int .i64 0, .int .i64 0, .int .i64 0, .int .i64 0, .int .i64 0, .string ⟨#[]⟩, .slice none 0 0, .slice none 0 0] 26)).cell? ⟨g, 0, none⟩ = some (.string d) := ((unhide HB).cell (p := ⟨g, 0, none⟩) hg).trans (by rw [← h0]; exact hr 0 _)
 have C2 := hide (show w.cell? ⟨g, 2, none⟩ = some (.string f) from by rw [← h2]; exact hr 2 _)
 have hlen : d.data.toList.length = d.size := sizeT d
 have hlenf : f.data.toList.length = f.size := sizeT f
 obtain ⟨w1, q, q1, q2, q3, q4⟩ := to_bytesS (w.alloc (Obj.cells #[.int .i64 0, .int .i64 0, .int .i64 0, .int .i64 0, .int .i64 0, .int .i64 0, .int .i64 0, .int .i64 0, .int .i64 0, .string ⟨#[]⟩, .slice none 0 0, .slice none 0 0] 26)) d
 obtain ⟨R, hR⟩ : ∃ R, R = rnL d.data.toList := ⟨_, rfl⟩
 have hy := (rn27 d (by omega)).2 h27
 have T := ireadnumsH _ q d.data.toList R 0 hR hy.1.symm (by omega) (by omega) w1 q2
 rw [hlen, show R.length = 9 from by rw [hR]; exact hy.2] at T
 have HT := hide T
 have HB1 := hide ((unhide HB).trans (q4.mono (unhide HB).size))
 have RS1 := hide ((unhide RS).below q4)
 have n3 : ¬ (n : Int) < 3 := by omega
 have n0 : (0 : Int) < (n : Int) := by omega
 have n2 : (2 : Int) < (n : Int) := by omega
 have hsz : (w.alloc (Obj.cells #[.int .i64 0, .int .i64 0, .int .i64 0, .int .i64 0, .int .i64 0, .int .i64 0, .int .i64 0, .int .i64 0, .int .i64 0, .string ⟨#[]⟩, .slice none 0 0, .slice none 0 0] 26)).heap.size = w.heap.size + 1 := by simp
 have HE := hide hE
 have HLF := hide hlenf
 have HNO := hide hno
 have HR := hide hR
 rw [hsz] at q1 HT
 clear T hr h0 h2 hlen q2 q3 q4 HB RS hsz hE hlenf hno hR hy h27
 go_enter Tryd.func14, Tryd.ntmps14
 go_wp2_with fail
 refine (unhide HT).mono ?_
 rintro e w2 ⟨v2, rfl, o2, hb2⟩
 obtain ⟨a2, c2, rfl, -⟩ := own_rowV o2
 have HB2 := hide ((unhide HB1).trans (hb2.mono (unhide HB1).size))
 have RS2 := hide ((unhide RS1).below hb2)
 have k2 : w2.cell? ⟨g, 2, none⟩ = some (.string f) := ((unhide HB2).cell (p := ⟨g, 2, none⟩) hg).trans (unhide C2)
 obtain ⟨w3, q', p1, p2, p3, p4⟩ := to_bytesS w2 f
 have HB3 := hide ((unhide HB2).trans (p4.mono (unhide HB2).size))
 have RS3 := hide ((unhide RS2).below p4)
 have e3 : rfC f.data.toList = 3 := by unfold rfC; rw [if_neg (by rw [unhide HLF]; omega), unhide HNO]; rfl
 have T3 := ireadfieldsH _ q' f.data.toList _ 3 rfl e3.symm (by rw [unhide HLF]; omega) (by rw [unhide HLF]; exact p3) w3 p2 ((unhide HE).below (unhide HB3))
 rw [unhide HLF] at T3
 have HT3 := hide T3
 clear o2 hb2 HT q1 c0 HB1 RS1 T3 e3 p2 p3 p4 HB2 RS2
 go_wp2_with fail
 refine (unhide HT3).mono ?_
 rintro e w4 ⟨v4, rfl, o4, hb4⟩
 obtain ⟨a4, c4, rfl, -⟩ := own_rowV o4
 have HB4 := hide ((unhide HB3).trans (hb4.mono (unhide HB3).size))
 have RS4 := hide ((unhide RS3).below hb4)
 have z := (unhide RS4).S
 have zf := (unhide RS4).F
 clear o4 hb4 HT3 p1 k2 HB3 RS3
 go_wp2_with fail
 refine bodyPost_ret (v := .tuple #[.agg #[.int .i64 0, .int .i64 0, .int .i64 0, .int .i64 0, .int .i64 0, .int .i64 0, .int .i64 0, .int .i64 0, .int .i64 0, .string ⟨#[]⟩, .slice none 0 0, .slice none 0 0], .bool false]) (by simp [results, Tryd.results14, go_sem, z]) rfl ⟨rfl, ?_⟩
 iterate 12 refine Below.setCell ?_ (by exact Nat.le_refl _) _
 exact unhide HB4
end Go.Proofs.YtpcdjpfffanlbaaDoor
