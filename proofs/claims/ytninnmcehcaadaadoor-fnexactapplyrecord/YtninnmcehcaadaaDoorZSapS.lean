/- spec.l07Apply of a text that is no record: what the specification answers. -/
import Derived.Test.YtninnmcehcaadaaDoorZOwnS
import Derived.Test.YtninnmcehcaadaaDoorZReadFT
import Derived.Test.YtninnmcehcaadaaDoorZReadNumS
import Derived.Test.YtninnmcehcaadaaDoorZG21
namespace Go.Proofs.YtninnmcehcaadaaDoor
open Go.ChangeShapes Go.WideShapes Go.ChangeAt Go.RowKit
set_option linter.unusedVariables false
theorem rf_lenA {l : List UInt8} {m : List ByteArray} (h : rfOf l = some m) : m.length ≤ 60 := by
  unfold rfOf at h
  split at h
  · cases h
  · split at h
    · cases h
    · cases hf : fldN (l.drop 1) (ofBE (l.take 1)) with
      | none => rw [hf] at h; cases h
      | some p =>
        rw [hf] at h
        simp only [Option.bind_some] at h
        split at h
        · injection h with h
          rw [← h, (fldN_len _ _ p.1 p.2 hf).1]
          omega
        · cases h
set_option maxHeartbeats 4000000 in
set_option maxRecDepth 100000 in
theorem sap_few (tm vt : Int) (a : Option Addr) (cap n : Nat) (t : ByteArray) (ht : t.size ≤ 65536) (H : Hid (∀ m, rfOf t.data.toList = some m → m.length < 2)) (w : World) :
    Calls Tryd.prog 13 #[.agg #[.int .i64 tm, .int .i64 vt, .slice a n cap], .string t] w fun e w' => e = .returned (.tuple #[.agg #[.int .i64 tm, .int .i64 vt, .slice a n cap], .bool false]) ∧ Below w.heap.size w w' := by
  have B0 := hide (Go.Joins.below_alloc2 w (.cells #[.int .i64 tm, .int .i64 vt, .slice a n cap] 28) (.cells #[.int .i64 0, .int .i64 0, .slice none 0 0] 28))
  have A0 := hide ((BF.new w #[.int .i64 tm, .int .i64 vt, .slice a n cap] 28).alloc (.cells #[.int .i64 0, .int .i64 0, .slice none 0 0] 28))
  have Z0 := hide (BF.new (w.alloc (.cells #[.int .i64 tm, .int .i64 vt, .slice a n cap] 28)) #[.int .i64 0, .int .i64 0, .slice none 0 0] 28)
  simp only [World.size_alloc] at Z0
  go_enter Tryd.func13, Tryd.ntmps13
  go_wp2_with fail
  refine (sread t ht _).mono ?_
  rintro e w1 ⟨⟨m, v, c, rfl, ho, hm⟩, hb1⟩
  have B1 := hide ((unhide B0).trans (hb1.mono (unhide B0).size))
  have A1 := hide ((unhide A0).below hb1)
  have Z1 := hide ((unhide Z0).below hb1)
  obtain ⟨am, cm, rfl, -⟩ := own_rowV ho
  have ka := (unhide A1).S
  have kz := (unhide Z1).S
  have kzf := (unhide Z1).F
  have hlen : c = true → m.length < 2 := by
    intro hc
    rcases hm with ⟨_, h⟩ | ⟨h, _⟩
    · exact unhide H m h
    · rw [hc] at h; cases h
  obtain ⟨k, hk⟩ : ∃ k, k = m.length := ⟨_, rfl⟩
  rw [← hk] at hlen ⊢
  clear hb1 B0 A0 Z0 ho hm hk
  cases c with
  | false =>
    go_wp2_with fail
    refine bodyPost_ret (v := .tuple #[.agg #[.int .i64 tm, .int .i64 vt, .slice a n cap], .bool false]) (by simp [results, Tryd.results13, go_sem, kz]) rfl ⟨rfl, ?_⟩
    iterate 3 refine Below.setCell ?_ (by exact Nat.le_succ _) _
    exact unhide B1
  | true =>
    have hl2 : (k : Int) < 2 := by have := hlen rfl; omega
    clear hlen
    go_wp2_with fail
    refine bodyPost_ret (v := .tuple #[.agg #[.int .i64 tm, .int .i64 vt, .slice a n cap], .bool false]) (by simp [results, Tryd.results13, go_sem, kz]) rfl ⟨rfl, ?_⟩
    iterate 3 refine Below.setCell ?_ (by exact Nat.le_succ _) _
    exact unhide B1
set_option maxHeartbeats 4000000 in
set_option maxRecDepth 100000 in
theorem sap_form (tm vt : Int) (a : Option Addr) (cap n : Nat) (t f0 f1 : ByteArray) (r : List ByteArray) (ht : t.size ≤ 65536) (H : Hid (rfOf t.data.toList = some (f0 :: f1 :: r))) (hf1 : ¬ f1.size % 3 = 0) (hf2 : f1.size ≤ 65536) (w : World) :
    Calls Tryd.prog 13 #[.agg #[.int .i64 tm, .int .i64 vt, .slice a n cap], .string t] w fun e w' => e = .returned (.tuple #[.agg #[.int .i64 tm, .int .i64 vt, .slice a n cap], .bool false]) ∧ Below w.heap.size w w' := by
  have B0 := hide (Go.Joins.below_alloc2 w (.cells #[.int .i64 tm, .int .i64 vt, .slice a n cap] 28) (.cells #[.int .i64 0, .int .i64 0, .slice none 0 0] 28))
  have A0 := hide ((BF.new w #[.int .i64 tm, .int .i64 vt, .slice a n cap] 28).alloc (.cells #[.int .i64 0, .int .i64 0, .slice none 0 0] 28))
  have Z0 := hide (BF.new (w.alloc (.cells #[.int .i64 tm, .int .i64 vt, .slice a n cap] 28)) #[.int .i64 0, .int .i64 0, .slice none 0 0] 28)
  simp only [World.size_alloc] at Z0
  have T := sreadform30 f1 hf1 hf2
  have HT := hide T
  clear T
  go_enter Tryd.func13, Tryd.ntmps13
  go_wp2_with fail
  refine (sread t ht _).mono ?_
  rintro e w1 ⟨⟨m, v, c, rfl, ho, hm⟩, hb1⟩
  obtain ⟨rfl, rfl⟩ : c = true ∧ m = f0 :: f1 :: r := by
    rcases hm with ⟨h1, h2⟩ | ⟨_, _, h2⟩
    · rw [unhide H] at h2; injection h2 with h2; exact ⟨h1, h2.symm⟩
    · rw [unhide H] at h2; cases h2
  have B1 := hide ((unhide B0).trans (hb1.mono (unhide B0).size))
  have A1 := hide ((unhide A0).below hb1)
  have Z1 := hide ((unhide Z0).below hb1)
  obtain ⟨am, cm, rfl, hrm⟩ := own_rowV ho
  obtain ⟨k, hk⟩ : ∃ k, k = (f0 :: f1 :: r).length := ⟨_, rfl⟩
  have hk2 : 2 ≤ k := by rw [hk]; simp
  have hk6 : k ≤ 60 := by rw [hk]; exact rf_lenA (unhide H)
  rw [← hk]
  obtain ⟨b, off, rfl, hblt, hcel⟩ := hrm.at (by simp [cS])
  have k1 : w1.cell? ⟨b, off + 1, none⟩ = some (.string f1) := hcel 1 _ (by simp [cS])
  have dl : ¬ (k : Int) < 2 := by omega
  have i1 : (1 : Int) < (k : Int) := by omega
  have i1n : 1 < k := by omega
  have ka := (unhide A1).S
  clear hb1 B0 A0 Z0 ho hm hrm hcel hk
  go_wp2_with fail
  refine (unhide HT _).mono ?_
  rintro e w2 ⟨v2, rfl, hb2⟩
  have B2 := hide ((unhide B1).trans (hb2.mono (unhide B1).size))
  have A2 := hide ((unhide A1).below hb2)
  have Z2 := hide ((unhide Z1).below hb2)
  clear hb2 B1 A1 Z1 k1 ka
  have ka := (unhide A2).S
  have kz := (unhide Z2).S
  have kzf := (unhide Z2).F
  go_wp2_with fail
  refine bodyPost_ret (v := .tuple #[.agg #[.int .i64 tm, .int .i64 vt, .slice a n cap], .bool false]) (by simp [results, Tryd.results13, go_sem, kz]) rfl ⟨rfl, ?_⟩
  iterate 3 refine Below.setCell ?_ (by exact Nat.le_succ _) _
  exact unhide B2
end Go.Proofs.YtninnmcehcaadaaDoor
