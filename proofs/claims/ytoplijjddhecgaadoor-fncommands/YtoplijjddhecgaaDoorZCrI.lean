/- ReadCommand: what the program answers. -/
import Derived.Test.YtoplijjddhecgaaDoorZCrM
import Derived.Test.YtoplijjddhecgaaDoorZCbI
import Derived.Test.YtoplijjddhecgaaDoorZReadFT
import Derived.Test.YtoplijjddhecgaaDoorZReadNumI
import Derived.Test.YtoplijjddhecgaaDoorZG30
namespace Go.Proofs.YtoplijjddhecgaaDoor
open Go.ChangeShapes Go.WideShapes Go.ChangeAt Go.RowKit
set_option linter.unusedVariables false
theorem put9 {n : Nat} {a0 a1 a2 a3 a4 a5 a6 a7 a8 : Value} {w : World} (h : BF n #[a0, a1, a2, a3, a4, a5, a6, a7, a8] w) (v0 v1 v2 v3 v4 v5 v6 v7 v8 : Value) : BF n #[v0, v1, v2, v3, v4, v5, v6, v7, v8] (((((((((w.setCell ⟨n, 0, none⟩ v0).setCell ⟨n, 1, none⟩ v1).setCell ⟨n, 2, none⟩ v2).setCell ⟨n, 3, none⟩ v3).setCell ⟨n, 4, none⟩ v4).setCell ⟨n, 5, none⟩ v5).setCell ⟨n, 6, none⟩ v6).setCell ⟨n, 7, none⟩ v7).setCell ⟨n, 8, none⟩ v8) := by
  have := ((((((((h.set 0 (by simp) v0).set 1 (by simp) v1).set 2 (by simp) v2).set 3 (by simp) v3).set 4 (by simp) v4).set 5 (by simp) v5).set 6 (by simp) v6).set 7 (by simp) v7).set 8 (by simp) v8
  simpa using this
theorem to_inC (w : World) (L : List UInt8) : ∃ w' cap, (convert 9 22 (.string ⟨L.toArray⟩)).run Tryd.prog w = .ok (.slice (some ⟨w.heap.size, 0, none⟩) L.length cap) w' ∧ RowV w' (some ⟨w.heap.size, 0, none⟩) (B8 L) ∧ L.length ≤ cap ∧ Below w.heap.size w w' := by
  obtain ⟨w', cap, h1, h2, h3⟩ := to_in w L
  refine ⟨w', cap, h1, h2.row, ?_, h3⟩
  have e : (⟨L.toArray⟩ : ByteArray).size = L.length := mk_size L
  have h4 := Go.Lib.run_convert_string_bytes (P := Tryd.prog) w _ _ 5 (⟨L.toArray⟩ : ByteArray) Tryd.underlying9 Tryd.underlying22 Tryd.underlying5
  rw [h1, e] at h4
  injection h4 with h4 _
  injection h4 with _ _ h4
  rw [h4]
  exact grownCap_ge _ _ _ _
set_option maxHeartbeats 400000 in
set_option maxRecDepth 100000 in
theorem inumof (s : ByteArray) (hs : s.size ≤ 20000) (R : Bool) (HR : Hid (R = decide (s.size = 21))) (L : List Int) (HL : Hid (L = rnL s.data.toList)) (w : World) : Calls Tryd.prog 40 #[.string s, .int .i64 7] w fun e w' => ∃ v, e = .returned (.tuple #[v, .bool R]) ∧ w'.ownsRow w.heap.size 3 1 v L.length (cI L) ∧ Below w.heap.size w w' := by
  have hlen := text_len s
  obtain ⟨c, hc⟩ : ∃ c, c = rnC s.data.toList := ⟨_, rfl⟩
  obtain ⟨w1, cap, h1, h2, h3, h4⟩ := to_inC w s.data.toList
  have T := hide (ireadnumsH (some ⟨w.heap.size, 0, none⟩) cap s.data.toList L c (unhide HL) hc (by omega) h3 w1 h2)
  have hRR : R = (decide (c = 0) && decide (L.length = 7)) := by
    rw [unhide HR, hc, unhide HL]
    by_cases e : s.size = 21
    · have h5 := rn_ok (l := s.data.toList) (by omega) (by omega) (by omega)
      rw [h5.1, h5.2, numsR_len, hlen, e]; rfl
    · rw [decide_eq_false e]
      by_cases e3 : s.data.toList.length % 3 = 0
      · by_cases e4 : 4096 < s.data.toList.length / 3
        · have h5 := rn_many (l := s.data.toList) (by omega) e3 e4
          rw [h5.1, h5.2]; rfl
        · have h5 := rn_ok (l := s.data.toList) (by omega) e3 e4
          rw [h5.1, h5.2, numsR_len, decide_eq_false (show ¬ s.data.toList.length / 3 = 7 by omega)]; rfl
      · have h5 := rn_form (l := s.data.toList) (by omega) e3
        rw [h5.1, h5.2]; rfl
  have HB1 := hide h4
  have es : (⟨s.data.toList.toArray⟩ : ByteArray) = s := rfl
  rw [es] at h1
  obtain ⟨n7, hn7⟩ : ∃ n7 : Nat, L.length = n7 := ⟨_, rfl⟩
  have HN7 := hide hn7
  rw [hn7] at hRR T
  have HRR := hide hRR
  clear h2 h3 h4 hRR hc hn7 es hlen HR HL hs
  by_cases e0 : c = 0
  · by_cases e7 : n7 = 7
    · have hR := unhide HRR
      rw [decide_eq_true e0, decide_eq_true e7] at hR
      have hR2 : R = true := hR
      clear hR HRR
      subst e0 e7 hR2
      go_enter Tryd.func40, Tryd.ntmps40
      go_wp2_with fail
      refine (unhide T).mono ?_
      rintro e w2 ⟨v2, rfl, ho2, hb2⟩
      obtain ⟨a2, c2, rfl, -⟩ := own_rowV ho2
      have HO2 := hide (Go.Joins.ownsRow_le ho2 (unhide HB1).size)
      have HB2 := hide ((unhide HB1).trans (hb2.mono (unhide HB1).size))
      clear ho2 hb2 T h1
      go_wp2_with fail
      go_ret2
      exact ⟨_, rfl, by rw [unhide HN7]; exact unhide HO2, unhide HB2⟩
    · have hR := unhide HRR
      rw [decide_eq_true e0, decide_eq_false e7] at hR
      have hR2 : R = false := hR
      have e7' : ((n7 : Int) == 7) = false := by rw [beq_eq_false_iff_ne]; omega
      clear hR HRR
      subst e0 hR2
      go_enter Tryd.func40, Tryd.ntmps40
      go_wp2_with fail
      refine (unhide T).mono ?_
      rintro e w2 ⟨v2, rfl, ho2, hb2⟩
      obtain ⟨a2, c2, rfl, -⟩ := own_rowV ho2
      have HO2 := hide (Go.Joins.ownsRow_le ho2 (unhide HB1).size)
      have HB2 := hide ((unhide HB1).trans (hb2.mono (unhide HB1).size))
      clear ho2 hb2 T h1
      go_wp2_with fail
      go_ret2
      exact ⟨_, rfl, by rw [unhide HN7]; exact unhide HO2, unhide HB2⟩
  · have hR := unhide HRR
    rw [decide_eq_false e0] at hR
    simp only [Bool.false_and] at hR
    have e0' : (c == 0) = false := beq_eq_false_iff_ne.2 e0
    clear HRR
    subst hR
    go_enter Tryd.func40, Tryd.ntmps40
    go_wp2_with fail
    refine (unhide T).mono ?_
    rintro e w2 ⟨v2, rfl, ho2, hb2⟩
    obtain ⟨a2, c2, rfl, -⟩ := own_rowV ho2
    have HO2 := hide (Go.Joins.ownsRow_le ho2 (unhide HB1).size)
    have HB2 := hide ((unhide HB1).trans (hb2.mono (unhide HB1).size))
    clear ho2 hb2 T
    go_wp2_with fail
    go_ret2
    exact ⟨_, rfl, by rw [unhide HN7]; exact unhide HO2, unhide HB2⟩
set_option maxHeartbeats 400000 in
set_option maxRecDepth 100000 in
theorem icmdof_len (a : Option Addr) (cap n : Nat) (h : ¬ n = 3) (w : World) : Calls Tryd.prog 19 #[.slice a n cap] w fun e w' => e = .returned (.tuple #[.agg #[.int .i64 0, .int .i64 0, .int .i64 0, .int .i64 0, .int .i64 0, .int .i64 0, .bool false, .string ⟨#[]⟩, .string ⟨#[]⟩], .bool false]) ∧ Below w.heap.size w w' := by
  have h2 : ((n : Int) != 3) = true := by rw [bne_iff_ne]; omega
  go_enter Tryd.func19, Tryd.ntmps19
  go_wp2_with fail
  refine bodyPost_ret (v := .tuple #[.agg #[.int .i64 0, .int .i64 0, .int .i64 0, .int .i64 0, .int .i64 0, .int .i64 0, .bool false, .string ⟨#[]⟩, .string ⟨#[]⟩], .bool false]) (by simp [results, Tryd.results19, go_sem]) rfl ⟨rfl, ?_⟩
  exact Go.Joins.below_alloc1 w _
set_option maxHeartbeats 400000 in
set_option maxRecDepth 100000 in
theorem icmdof_no (g cap : Nat) (f0 nm dt : ByteArray) (hs : f0.size ≤ 20000) (h : ¬ f0.size = 21) (w : World) (hr : ∀ i u, (cS [f0, nm, dt])[i]? = some u → w.cell? ⟨g, i, none⟩ = some u) (hg : g < w.heap.size) : Calls Tryd.prog 19 #[.slice (some ⟨g, 0, none⟩) 3 cap] w fun e w' => e = .returned (.tuple #[.agg #[.int .i64 0, .int .i64 0, .int .i64 0, .int .i64 0, .int .i64 0, .int .i64 0, .bool false, .string ⟨#[]⟩, .string ⟨#[]⟩], .bool false]) ∧ Below w.heap.size w w' := by
  have HB := hide (Go.Joins.below_alloc1 w (Obj.cells #[.int .i64 0, .int .i64 0, .int .i64 0, .int .i64 0, .int .i64 0, .int .i64 0, .bool false, .string ⟨#[]⟩, .string ⟨#[]⟩] 24))
  have RS := hide (BF.new w #[.int .i64 0, .int .i64 0, .int .i64 0, .int .i64 0, .int .i64 0, .int .i64 0, .bool false, .string ⟨#[]⟩, .string ⟨#[]⟩] 24)
  have c0 : (w.alloc (Obj.cells #[.int .i64 0, .int .i64 0, .int .i64 0, .int .i64 0, .int .i64 0, .int .i64 0, .bool false, .string ⟨#[]⟩, .string ⟨#[]⟩] 24)).cell? ⟨g, 0, none⟩ = some (.string f0) := ((unhide HB).cell (p := ⟨g, 0, none⟩) hg).trans (hr 0 _ rfl)
  have T1 := hide (fun w => inumof f0 hs false (decide_eq_false h).symm _ rfl w)
  clear hr hs h
  go_enter Tryd.func19, Tryd.ntmps19
  go_wp2_with fail
  refine (unhide T1 _).mono ?_
  rintro e w3 ⟨v3, rfl, -, hb3⟩
  have HB3 := hide ((unhide HB).trans (hb3.mono (unhide HB).size))
  have RS3 := hide ((unhide RS).below hb3)
  clear hb3 HB RS c0 T1
  have z := (unhide RS3).S
  have zf := (unhide RS3).F
  go_wp2_with fail
  refine bodyPost_ret (v := .tuple #[.agg #[.int .i64 0, .int .i64 0, .int .i64 0, .int .i64 0, .int .i64 0, .int .i64 0, .bool false, .string ⟨#[]⟩, .string ⟨#[]⟩], .bool false]) (by simp [results, Tryd.results19, go_sem, z]) rfl ⟨rfl, ?_⟩
  iterate 9 refine Below.setCell ?_ (by exact Nat.le_refl _) _
  exact unhide HB3
theorem k_far {w : World} {P gn gf : Nat} {x0 x1 x2 x3 x4 x5 x6 : Int} {nm dt : ByteArray} {v0 v1 v2 v3 v4 v5 v6 v7 v8 : Value} (h1 : ¬ gn = P) (h2 : ¬ gf = P) (h : w.cell? ⟨gn, 0, none⟩ = some (.int .i64 x0) ∧ w.cell? ⟨gn, 1, none⟩ = some (.int .i64 x1) ∧ w.cell? ⟨gn, 2, none⟩ = some (.int .i64 x2) ∧ w.cell? ⟨gn, 3, none⟩ = some (.int .i64 x3) ∧ w.cell? ⟨gn, 4, none⟩ = some (.int .i64 x4) ∧ w.cell? ⟨gn, 5, none⟩ = some (.int .i64 x5) ∧ w.cell? ⟨gn, 6, none⟩ = some (.int .i64 x6) ∧ w.cell? ⟨gf, 1, none⟩ = some (.string nm) ∧ w.cell? ⟨gf, 2, none⟩ = some (.string dt)) : (((((((((w.setCell ⟨P, 0, none⟩ v0).setCell ⟨P, 1, none⟩ v1).setCell ⟨P, 2, none⟩ v2).setCell ⟨P, 3, none⟩ v3).setCell ⟨P, 4, none⟩ v4).setCell ⟨P, 5, none⟩ v5).setCell ⟨P, 6, none⟩ v6).setCell ⟨P, 7, none⟩ v7).setCell ⟨P, 8, none⟩ v8).cell? ⟨gn, 0, none⟩ = some (.int .i64 x0) ∧ (((((((((w.setCell ⟨P, 0, none⟩ v0).setCell ⟨P, 1, none⟩ v1).setCell ⟨P, 2, none⟩ v2).setCell ⟨P, 3, none⟩ v3).setCell ⟨P, 4, none⟩ v4).setCell ⟨P, 5, none⟩ v5).setCell ⟨P, 6, none⟩ v6).setCell ⟨P, 7, none⟩ v7).setCell ⟨P, 8, none⟩ v8).cell? ⟨gn, 1, none⟩ = some (.int .i64 x1) ∧ (((((((((w.setCell ⟨P, 0, none⟩ v0).setCell ⟨P, 1, none⟩ v1).setCell ⟨P, 2, none⟩ v2).setCell ⟨P, 3, none⟩ v3).setCell ⟨P, 4, none⟩ v4).setCell ⟨P, 5, none⟩ v5).setCell ⟨P, 6, none⟩ v6).setCell ⟨P, 7, none⟩ v7).setCell ⟨P, 8, none⟩ v8).cell? ⟨gn, 2, none⟩ = some (.int .i64 x2) ∧ (((((((((w.setCell ⟨P, 0, none⟩ v0).setCell ⟨P, 1, none⟩ v1).setCell ⟨P, 2, none⟩ v2).setCell ⟨P, 3, none⟩ v3).setCell ⟨P, 4, none⟩ v4).setCell ⟨P, 5, none⟩ v5).setCell ⟨P, 6, none⟩ v6).setCell ⟨P, 7, none⟩ v7).setCell ⟨P, 8, none⟩ v8).cell? ⟨gn, 3, none⟩ = some (.int .i64 x3) ∧ (((((((((w.setCell ⟨P, 0, none⟩ v0).setCell ⟨P, 1, none⟩ v1).setCell ⟨P, 2, none⟩ v2).setCell ⟨P, 3, none⟩ v3).setCell ⟨P, 4, none⟩ v4).setCell ⟨P, 5, none⟩ v5).setCell ⟨P, 6, none⟩ v6).setCell ⟨P, 7, none⟩ v7).setCell ⟨P, 8, none⟩ v8).cell? ⟨gn, 4, none⟩ = some (.int .i64 x4) ∧ (((((((((w.setCell ⟨P, 0, none⟩ v0).setCell ⟨P, 1, none⟩ v1).setCell ⟨P, 2, none⟩ v2).setCell ⟨P, 3, none⟩ v3).setCell ⟨P, 4, none⟩ v4).setCell ⟨P, 5, none⟩ v5).setCell ⟨P, 6, none⟩ v6).setCell ⟨P, 7, none⟩ v7).setCell ⟨P, 8, none⟩ v8).cell? ⟨gn, 5, none⟩ = some (.int .i64 x5) ∧ (((((((((w.setCell ⟨P, 0, none⟩ v0).setCell ⟨P, 1, none⟩ v1).setCell ⟨P, 2, none⟩ v2).setCell ⟨P, 3, none⟩ v3).setCell ⟨P, 4, none⟩ v4).setCell ⟨P, 5, none⟩ v5).setCell ⟨P, 6, none⟩ v6).setCell ⟨P, 7, none⟩ v7).setCell ⟨P, 8, none⟩ v8).cell? ⟨gn, 6, none⟩ = some (.int .i64 x6) ∧ (((((((((w.setCell ⟨P, 0, none⟩ v0).setCell ⟨P, 1, none⟩ v1).setCell ⟨P, 2, none⟩ v2).setCell ⟨P, 3, none⟩ v3).setCell ⟨P, 4, none⟩ v4).setCell ⟨P, 5, none⟩ v5).setCell ⟨P, 6, none⟩ v6).setCell ⟨P, 7, none⟩ v7).setCell ⟨P, 8, none⟩ v8).cell? ⟨gf, 1, none⟩ = some (.string nm) ∧ (((((((((w.setCell ⟨P, 0, none⟩ v0).setCell ⟨P, 1, none⟩ v1).setCell ⟨P, 2, none⟩ v2).setCell ⟨P, 3, none⟩ v3).setCell ⟨P, 4, none⟩ v4).setCell ⟨P, 5, none⟩ v5).setCell ⟨P, 6, none⟩ v6).setCell ⟨P, 7, none⟩ v7).setCell ⟨P, 8, none⟩ v8).cell? ⟨gf, 2, none⟩ = some (.string dt) := by
  have e : ∀ (w : World) (q o j : Nat) (v : Value), ¬ q = P → (w.setCell ⟨P, o, none⟩ v).cell? ⟨q, j, none⟩ = w.cell? ⟨q, j, none⟩ := fun w q o j v hq => World.cell?_of_block (by have hk' : P ≠ q := fun e => hq e.symm; simp [World.setCell, Array.getElem?_modify, hk'])
  simp only [e _ _ _ _ _ h1, e _ _ _ _ _ h2]
  exact h
set_option maxHeartbeats 2000000 in
set_option maxRecDepth 100000 in
theorem icmdof_yes (gf cap : Nat) (f0 nm dt : ByteArray) (h : f0.size = 21) (x0 x1 x2 x3 x4 x5 x6 : Int) (hx : numsR f0.data.toList 7 = [x0, x1, x2, x3, x4, x5, x6]) (w : World) (hr : ∀ i u, (cS [f0, nm, dt])[i]? = some u → w.cell? ⟨gf, i, none⟩ = some u) (hg : gf < w.heap.size) : Calls Tryd.prog 19 #[.slice (some ⟨gf, 0, none⟩) 3 cap] w fun e w' => e = .returned (.tuple #[.agg #[.int .i64 x0, .int .i64 x1, .int .i64 x2, .int .i64 x3, .int .i64 (x4 - 1000), .int .i64 x5, .bool (x6 == 1), .string nm, .string dt], .bool true]) ∧ Below w.heap.size w w' := by
  have HB := hide (Go.Joins.below_alloc1 w (Obj.cells #[.int .i64 0, .int .i64 0, .int .i64 0, .int .i64 0, .int .i64 0, .int .i64 0, .bool false, .string ⟨#[]⟩, .string ⟨#[]⟩] 24))
  have RS := hide (BF.new w #[.int .i64 0, .int .i64 0, .int .i64 0, .int .i64 0, .int .i64 0, .int .i64 0, .bool false, .string ⟨#[]⟩, .string ⟨#[]⟩] 24)
  have hlen : f0.data.toList.length = 21 := by rw [text_len]; exact h
  have hrn : [x0, x1, x2, x3, x4, x5, x6] = rnL f0.data.toList := by rw [(rn_ok (l := f0.data.toList) (by omega) (by omega) (by omega)).1, hlen]; exact hx.symm
  have c0 : (w.alloc (Obj.cells #[.int .i64 0, .int .i64 0, .int .i64 0, .int .i64 0, .int .i64 0, .int .i64 0, .bool false, .string ⟨#[]⟩, .string ⟨#[]⟩] 24)).cell? ⟨gf, 0, none⟩ = some (.string f0) := ((unhide HB).cell (p := ⟨gf, 0, none⟩) hg).trans (hr 0 _ rfl)
  have d1 := hr 1 _ rfl
  have d2 := hr 2 _ rfl
  have T1 := hide (fun w => inumof f0 (by omega) true (decide_eq_true h).symm _ hrn w)
  have hx4 : -1 ≤ x4 ∧ x4 ≤ 16777214 := by
    have e : numsR f0.data.toList 7 = (List.range 7).map fun k => ((ofBE (chunk f0.data.toList k) : Nat) : Int) - 1 := rfl
    rw [hx] at e
    have e4 := congrArg (fun l => l[4]?) e
    have e4' : x4 = ((ofBE (chunk f0.data.toList 4) : Nat) : Int) - 1 := by simpa using e4
    have hb := ofBE_lt2 (chunk f0.data.toList 4)
    have hl3 : (chunk f0.data.toList 4).length = 3 := by unfold chunk; rw [List.length_take, List.length_drop]; omega
    rw [hl3] at hb
    have : (256 : Nat) ^ 3 = 16777216 := by decide
    omega
  obtain ⟨x4a, x4b⟩ := hx4
  clear hr hlen hrn hx h
  go_enter Tryd.func19, Tryd.ntmps19
  go_wp2_with fail
  refine (unhide T1 _).mono ?_
  rintro e w3 ⟨v3, rfl, ho3, hb3⟩
  obtain ⟨a3, c3, rfl, -⟩ := own_rowV ho3
  obtain ⟨gn, rfl⟩ := own_at1 ho3 (by simp)
  have HB3 := hide ((unhide HB).trans (hb3.mono (unhide HB).size))
  have RS3 := hide ((unhide RS).below hb3)
  have k3 : w3.cell? ⟨gn, 0, none⟩ = some (.int .i64 x0) ∧ w3.cell? ⟨gn, 1, none⟩ = some (.int .i64 x1) ∧ w3.cell? ⟨gn, 2, none⟩ = some (.int .i64 x2) ∧ w3.cell? ⟨gn, 3, none⟩ = some (.int .i64 x3) ∧ w3.cell? ⟨gn, 4, none⟩ = some (.int .i64 x4) ∧ w3.cell? ⟨gn, 5, none⟩ = some (.int .i64 x5) ∧ w3.cell? ⟨gn, 6, none⟩ = some (.int .i64 x6) ∧ w3.cell? ⟨gf, 1, none⟩ = some (.string nm) ∧ w3.cell? ⟨gf, 2, none⟩ = some (.string dt) := ⟨own_cell ho3 0 _ rfl, own_cell ho3 1 _ rfl, own_cell ho3 2 _ rfl, own_cell ho3 3 _ rfl, own_cell ho3 4 _ rfl, own_cell ho3 5 _ rfl, own_cell ho3 6 _ rfl, ((unhide HB3).cell (p := ⟨gf, 1, none⟩) hg).trans d1, ((unhide HB3).cell (p := ⟨gf, 2, none⟩) hg).trans d2⟩
  have hkn : ¬ gn = w.heap.size := by have := (ho3.lt gn rfl).1; simp at this; omega
  have hkf : ¬ gf = w.heap.size := by omega
  clear hb3 HB RS c0 T1 ho3 d1 d2
  go_wp2_with fail
  refine wp_region_held_drew (S := fun w' => w'.cell? ⟨gn, 0, none⟩ = some (.int .i64 x0) ∧ w'.cell? ⟨gn, 1, none⟩ = some (.int .i64 x1) ∧ w'.cell? ⟨gn, 2, none⟩ = some (.int .i64 x2) ∧ w'.cell? ⟨gn, 3, none⟩ = some (.int .i64 x3) ∧ w'.cell? ⟨gn, 4, none⟩ = some (.int .i64 x4) ∧ w'.cell? ⟨gn, 5, none⟩ = some (.int .i64 x5) ∧ w'.cell? ⟨gn, 6, none⟩ = some (.int .i64 x6) ∧ w'.cell? ⟨gf, 1, none⟩ = some (.string nm) ∧ w'.cell? ⟨gf, 2, none⟩ = some (.string dt)) (by kernel_rfl) k3 (fun hHeld => ?_)
  refine wpAnyH_take (i := 0) (oi := { dst := some 20, op := .move (.tmp 4), type := 55, pos := "l06_mux.go:290", after := #[], guard := none }) (v := ?_) rfl (by kernel_rfl) (by kernel_rfl) (by kernel_rfl) (fun _ _ _ h => h) (Or.inl ⟨by rfl, ?_⟩) (by assumption) ?_
  rotate_left 1
  · (intro w' hSw; (try dsimp only at hSw); go_simp; try with_reducible rfl)
  try simp only [Act.put, List.setIfInBounds_toArray, List.set_cons_zero, List.set_cons_succ]
  refine wpAnyH_take (i := 1) (oi := { dst := some 21, op := .indexAddr 55 (.tmp 20) (.const (.int .i64 0)), type := 0, pos := "l06_mux.go:290", after := #[{ on := 0, ground := .data }], guard := none }) (v := ?_) rfl (by kernel_rfl) (by kernel_rfl) (by kernel_rfl) (fun _ _ _ h => h) (Or.inl ⟨by rfl, ?_⟩) (by assumption) ?_
  rotate_left 1
  · (intro w' hSw; (try dsimp only at hSw); go_simp; try with_reducible rfl)
  try simp only [Act.put, List.setIfInBounds_toArray, List.set_cons_zero, List.set_cons_succ]
  refine wpAnyH_take (i := 2) (oi := { dst := some 22, op := .load 3 (.tmp 21), type := 3, pos := "l06_mux.go:290", after := #[{ on := 1, ground := .data }], guard := none }) (v := ?_) rfl (by kernel_rfl) (by kernel_rfl) (by kernel_rfl) (fun _ _ _ h => h) (Or.inl ⟨by rfl, ?_⟩) (by assumption) ?_
  rotate_left 1
  · (intro w' hSw; (try dsimp only at hSw); go_simp; try with_reducible rfl)
  try simp only [Act.put, List.setIfInBounds_toArray, List.set_cons_zero, List.set_cons_succ]
  refine wpAnyH_take (i := 3) (oi := { dst := some 23, op := .move (.tmp 4), type := 55, pos := "l06_mux.go:290", after := #[], guard := none }) (v := ?_) rfl (by kernel_rfl) (by kernel_rfl) (by kernel_rfl) (fun _ _ _ h => h) (Or.inl ⟨by rfl, ?_⟩) (by assumption) ?_
  rotate_left 1
  · (intro w' hSw; (try dsimp only at hSw); go_simp; try with_reducible rfl)
  try simp only [Act.put, List.setIfInBounds_toArray, List.set_cons_zero, List.set_cons_succ]
  refine wpAnyH_take (i := 4) (oi := { dst := some 24, op := .indexAddr 55 (.tmp 23) (.const (.int .i64 1)), type := 0, pos := "l06_mux.go:290", after := #[{ on := 3, ground := .data }], guard := none }) (v := ?_) rfl (by kernel_rfl) (by kernel_rfl) (by kernel_rfl) (fun _ _ _ h => h) (Or.inl ⟨by rfl, ?_⟩) (by assumption) ?_
  rotate_left 1
  · (intro w' hSw; (try dsimp only at hSw); go_simp; try with_reducible rfl)
  try simp only [Act.put, List.setIfInBounds_toArray, List.set_cons_zero, List.set_cons_succ]
  refine wpAnyH_take (i := 5) (oi := { dst := some 25, op := .load 3 (.tmp 24), type := 3, pos := "l06_mux.go:290", after := #[{ on := 4, ground := .data }], guard := none }) (v := ?_) rfl (by kernel_rfl) (by kernel_rfl) (by kernel_rfl) (fun _ _ _ h => h) (Or.inl ⟨by rfl, ?_⟩) (by assumption) ?_
  rotate_left 1
  · (intro w' hSw; (try dsimp only at hSw); go_simp; try with_reducible rfl)
  try simp only [Act.put, List.setIfInBounds_toArray, List.set_cons_zero, List.set_cons_succ]
  refine wpAnyH_take (i := 6) (oi := { dst := some 26, op := .move (.tmp 4), type := 55, pos := "l06_mux.go:290", after := #[], guard := none }) (v := ?_) rfl (by kernel_rfl) (by kernel_rfl) (by kernel_rfl) (fun _ _ _ h => h) (Or.inl ⟨by rfl, ?_⟩) (by assumption) ?_
  rotate_left 1
  · (intro w' hSw; (try dsimp only at hSw); go_simp; try with_reducible rfl)
  try simp only [Act.put, List.setIfInBounds_toArray, List.set_cons_zero, List.set_cons_succ]
  refine wpAnyH_take (i := 7) (oi := { dst := some 27, op := .indexAddr 55 (.tmp 26) (.const (.int .i64 2)), type := 0, pos := "l06_mux.go:290", after := #[{ on := 6, ground := .data }], guard := none }) (v := ?_) rfl (by kernel_rfl) (by kernel_rfl) (by kernel_rfl) (fun _ _ _ h => h) (Or.inl ⟨by rfl, ?_⟩) (by assumption) ?_
  rotate_left 1
  · (intro w' hSw; (try dsimp only at hSw); go_simp; try with_reducible rfl)
  try simp only [Act.put, List.setIfInBounds_toArray, List.set_cons_zero, List.set_cons_succ]
  refine wpAnyH_take (i := 8) (oi := { dst := some 28, op := .load 3 (.tmp 27), type := 3, pos := "l06_mux.go:290", after := #[{ on := 7, ground := .data }], guard := none }) (v := ?_) rfl (by kernel_rfl) (by kernel_rfl) (by kernel_rfl) (fun _ _ _ h => h) (Or.inl ⟨by rfl, ?_⟩) (by assumption) ?_
  rotate_left 1
  · (intro w' hSw; (try dsimp only at hSw); go_simp; try with_reducible rfl)
  try simp only [Act.put, List.setIfInBounds_toArray, List.set_cons_zero, List.set_cons_succ]
  refine wpAnyH_take (i := 9) (oi := { dst := some 29, op := .move (.tmp 4), type := 55, pos := "l06_mux.go:290", after := #[], guard := none }) (v := ?_) rfl (by kernel_rfl) (by kernel_rfl) (by kernel_rfl) (fun _ _ _ h => h) (Or.inl ⟨by rfl, ?_⟩) (by assumption) ?_
  rotate_left 1
  · (intro w' hSw; (try dsimp only at hSw); go_simp; try with_reducible rfl)
  try simp only [Act.put, List.setIfInBounds_toArray, List.set_cons_zero, List.set_cons_succ]
  refine wpAnyH_take (i := 10) (oi := { dst := some 30, op := .indexAddr 55 (.tmp 29) (.const (.int .i64 3)), type := 0, pos := "l06_mux.go:290", after := #[{ on := 9, ground := .data }], guard := none }) (v := ?_) rfl (by kernel_rfl) (by kernel_rfl) (by kernel_rfl) (fun _ _ _ h => h) (Or.inl ⟨by rfl, ?_⟩) (by assumption) ?_
  rotate_left 1
  · (intro w' hSw; (try dsimp only at hSw); go_simp; try with_reducible rfl)
  try simp only [Act.put, List.setIfInBounds_toArray, List.set_cons_zero, List.set_cons_succ]
  refine wpAnyH_take (i := 11) (oi := { dst := some 31, op := .load 3 (.tmp 30), type := 3, pos := "l06_mux.go:290", after := #[{ on := 10, ground := .data }], guard := none }) (v := ?_) rfl (by kernel_rfl) (by kernel_rfl) (by kernel_rfl) (fun _ _ _ h => h) (Or.inl ⟨by rfl, ?_⟩) (by assumption) ?_
  rotate_left 1
  · (intro w' hSw; (try dsimp only at hSw); go_simp; try with_reducible rfl)
  try simp only [Act.put, List.setIfInBounds_toArray, List.set_cons_zero, List.set_cons_succ]
  refine wpAnyH_take (i := 12) (oi := { dst := some 32, op := .move (.tmp 4), type := 55, pos := "l06_mux.go:290", after := #[], guard := none }) (v := ?_) rfl (by kernel_rfl) (by kernel_rfl) (by kernel_rfl) (fun _ _ _ h => h) (Or.inl ⟨by rfl, ?_⟩) (by assumption) ?_
  rotate_left 1
  · (intro w' hSw; (try dsimp only at hSw); go_simp; try with_reducible rfl)
  try simp only [Act.put, List.setIfInBounds_toArray, List.set_cons_zero, List.set_cons_succ]
  refine wpAnyH_take (i := 13) (oi := { dst := some 33, op := .indexAddr 55 (.tmp 32) (.const (.int .i64 4)), type := 0, pos := "l06_mux.go:290", after := #[{ on := 12, ground := .data }], guard := none }) (v := ?_) rfl (by kernel_rfl) (by kernel_rfl) (by kernel_rfl) (fun _ _ _ h => h) (Or.inl ⟨by rfl, ?_⟩) (by assumption) ?_
  rotate_left 1
  · (intro w' hSw; (try dsimp only at hSw); go_simp; try with_reducible rfl)
  try simp only [Act.put, List.setIfInBounds_toArray, List.set_cons_zero, List.set_cons_succ]
  refine wpAnyH_take (i := 14) (oi := { dst := some 34, op := .load 3 (.tmp 33), type := 3, pos := "l06_mux.go:290", after := #[{ on := 13, ground := .data }], guard := none }) (v := ?_) rfl (by kernel_rfl) (by kernel_rfl) (by kernel_rfl) (fun _ _ _ h => h) (Or.inl ⟨by rfl, ?_⟩) (by assumption) ?_
  rotate_left 1
  · (intro w' hSw; (try dsimp only at hSw); go_simp; try with_reducible rfl)
  try simp only [Act.put, List.setIfInBounds_toArray, List.set_cons_zero, List.set_cons_succ]
  refine wpAnyH_take (i := 15) (oi := { dst := some 35, op := .binOp .sub 3 (.tmp 34) (.const (.int .i64 1000)) 3, type := 3, pos := "l06_mux.go:290", after := #[{ on := 14, ground := .data }], guard := none }) (v := ?_) rfl (by kernel_rfl) (by kernel_rfl) (by kernel_rfl) (fun _ _ _ h => h) (Or.inl ⟨by rfl, ?_⟩) (by assumption) ?_
  rotate_left 1
  · (intro w' hSw; (try dsimp only at hSw); go_simp; try with_reducible rfl)
  try simp only [Act.put, List.setIfInBounds_toArray, List.set_cons_zero, List.set_cons_succ]
  refine wpAnyH_take (i := 16) (oi := { dst := some 36, op := .move (.tmp 4), type := 55, pos := "l06_mux.go:290", after := #[], guard := none }) (v := ?_) rfl (by kernel_rfl) (by kernel_rfl) (by kernel_rfl) (fun _ _ _ h => h) (Or.inl ⟨by rfl, ?_⟩) (by assumption) ?_
  rotate_left 1
  · (intro w' hSw; (try dsimp only at hSw); go_simp; try with_reducible rfl)
  try simp only [Act.put, List.setIfInBounds_toArray, List.set_cons_zero, List.set_cons_succ]
  refine wpAnyH_take (i := 17) (oi := { dst := some 37, op := .indexAddr 55 (.tmp 36) (.const (.int .i64 5)), type := 0, pos := "l06_mux.go:290", after := #[{ on := 16, ground := .data }], guard := none }) (v := ?_) rfl (by kernel_rfl) (by kernel_rfl) (by kernel_rfl) (fun _ _ _ h => h) (Or.inl ⟨by rfl, ?_⟩) (by assumption) ?_
  rotate_left 1
  · (intro w' hSw; (try dsimp only at hSw); go_simp; try with_reducible rfl)
  try simp only [Act.put, List.setIfInBounds_toArray, List.set_cons_zero, List.set_cons_succ]
  refine wpAnyH_take (i := 18) (oi := { dst := some 38, op := .load 3 (.tmp 37), type := 3, pos := "l06_mux.go:290", after := #[{ on := 17, ground := .data }], guard := none }) (v := ?_) rfl (by kernel_rfl) (by kernel_rfl) (by kernel_rfl) (fun _ _ _ h => h) (Or.inl ⟨by rfl, ?_⟩) (by assumption) ?_
  rotate_left 1
  · (intro w' hSw; (try dsimp only at hSw); go_simp; try with_reducible rfl)
  try simp only [Act.put, List.setIfInBounds_toArray, List.set_cons_zero, List.set_cons_succ]
  refine wpAnyH_take (i := 19) (oi := { dst := some 39, op := .move (.tmp 4), type := 55, pos := "l06_mux.go:290", after := #[], guard := none }) (v := ?_) rfl (by kernel_rfl) (by kernel_rfl) (by kernel_rfl) (fun _ _ _ h => h) (Or.inl ⟨by rfl, ?_⟩) (by assumption) ?_
  rotate_left 1
  · (intro w' hSw; (try dsimp only at hSw); go_simp; try with_reducible rfl)
  try simp only [Act.put, List.setIfInBounds_toArray, List.set_cons_zero, List.set_cons_succ]
  refine wpAnyH_take (i := 20) (oi := { dst := some 40, op := .indexAddr 55 (.tmp 39) (.const (.int .i64 6)), type := 0, pos := "l06_mux.go:290", after := #[{ on := 19, ground := .data }], guard := none }) (v := ?_) rfl (by kernel_rfl) (by kernel_rfl) (by kernel_rfl) (fun _ _ _ h => h) (Or.inl ⟨by rfl, ?_⟩) (by assumption) ?_
  rotate_left 1
  · (intro w' hSw; (try dsimp only at hSw); go_simp; try with_reducible rfl)
  try simp only [Act.put, List.setIfInBounds_toArray, List.set_cons_zero, List.set_cons_succ]
  refine wpAnyH_take (i := 21) (oi := { dst := some 41, op := .load 3 (.tmp 40), type := 3, pos := "l06_mux.go:290", after := #[{ on := 20, ground := .data }], guard := none }) (v := ?_) rfl (by kernel_rfl) (by kernel_rfl) (by kernel_rfl) (fun _ _ _ h => h) (Or.inl ⟨by rfl, ?_⟩) (by assumption) ?_
  rotate_left 1
  · (intro w' hSw; (try dsimp only at hSw); go_simp; try with_reducible rfl)
  try simp only [Act.put, List.setIfInBounds_toArray, List.set_cons_zero, List.set_cons_succ]
  refine wpAnyH_take (i := 22) (oi := { dst := some 42, op := .binOp .eql 3 (.tmp 41) (.const (.int .i64 1)) 3, type := 4, pos := "l06_mux.go:290", after := #[{ on := 21, ground := .data }], guard := none }) (v := ?_) rfl (by kernel_rfl) (by kernel_rfl) (by kernel_rfl) (fun _ _ _ h => h) (Or.inl ⟨by rfl, ?_⟩) (by assumption) ?_
  rotate_left 1
  · (intro w' hSw; (try dsimp only at hSw); go_simp; try with_reducible rfl)
  try simp only [Act.put, List.setIfInBounds_toArray, List.set_cons_zero, List.set_cons_succ]
  refine wpAnyH_take (i := 23) (oi := { dst := some 43, op := .move (.tmp 0), type := 39, pos := "l06_mux.go:290", after := #[], guard := none }) (v := ?_) rfl (by kernel_rfl) (by kernel_rfl) (by kernel_rfl) (fun _ _ _ h => h) (Or.inl ⟨by rfl, ?_⟩) (by assumption) ?_
  rotate_left 1
  · (intro w' hSw; (try dsimp only at hSw); go_simp; try with_reducible rfl)
  try simp only [Act.put, List.setIfInBounds_toArray, List.set_cons_zero, List.set_cons_succ]
  refine wpAnyH_take (i := 24) (oi := { dst := some 44, op := .indexAddr 39 (.tmp 43) (.const (.int .i64 1)), type := 0, pos := "l06_mux.go:290", after := #[{ on := 23, ground := .data }], guard := none }) (v := ?_) rfl (by kernel_rfl) (by kernel_rfl) (by kernel_rfl) (fun _ _ _ h => h) (Or.inl ⟨by rfl, ?_⟩) (by assumption) ?_
  rotate_left 1
  · (intro w' hSw; (try dsimp only at hSw); go_simp; try with_reducible rfl)
  try simp only [Act.put, List.setIfInBounds_toArray, List.set_cons_zero, List.set_cons_succ]
  refine wpAnyH_take (i := 25) (oi := { dst := some 45, op := .load 9 (.tmp 44), type := 9, pos := "l06_mux.go:290", after := #[{ on := 24, ground := .data }], guard := none }) (v := ?_) rfl (by kernel_rfl) (by kernel_rfl) (by kernel_rfl) (fun _ _ _ h => h) (Or.inl ⟨by rfl, ?_⟩) (by assumption) ?_
  rotate_left 1
  · (intro w' hSw; (try dsimp only at hSw); go_simp; try with_reducible rfl)
  try simp only [Act.put, List.setIfInBounds_toArray, List.set_cons_zero, List.set_cons_succ]
  refine wpAnyH_take (i := 26) (oi := { dst := some 46, op := .move (.tmp 0), type := 39, pos := "l06_mux.go:290", after := #[], guard := none }) (v := ?_) rfl (by kernel_rfl) (by kernel_rfl) (by kernel_rfl) (fun _ _ _ h => h) (Or.inl ⟨by rfl, ?_⟩) (by assumption) ?_
  rotate_left 1
  · (intro w' hSw; (try dsimp only at hSw); go_simp; try with_reducible rfl)
  try simp only [Act.put, List.setIfInBounds_toArray, List.set_cons_zero, List.set_cons_succ]
  refine wpAnyH_take (i := 27) (oi := { dst := some 47, op := .indexAddr 39 (.tmp 46) (.const (.int .i64 2)), type := 0, pos := "l06_mux.go:290", after := #[{ on := 26, ground := .data }], guard := none }) (v := ?_) rfl (by kernel_rfl) (by kernel_rfl) (by kernel_rfl) (fun _ _ _ h => h) (Or.inl ⟨by rfl, ?_⟩) (by assumption) ?_
  rotate_left 1
  · (intro w' hSw; (try dsimp only at hSw); go_simp; try with_reducible rfl)
  try simp only [Act.put, List.setIfInBounds_toArray, List.set_cons_zero, List.set_cons_succ]
  refine wpAnyH_take (i := 28) (oi := { dst := some 48, op := .load 9 (.tmp 47), type := 9, pos := "l06_mux.go:290", after := #[{ on := 27, ground := .data }], guard := none }) (v := ?_) rfl (by kernel_rfl) (by kernel_rfl) (by kernel_rfl) (fun _ _ _ h => h) (Or.inl ⟨by rfl, ?_⟩) (by assumption) ?_
  rotate_left 1
  · (intro w' hSw; (try dsimp only at hSw); go_simp; try with_reducible rfl)
  try simp only [Act.put, List.setIfInBounds_toArray, List.set_cons_zero, List.set_cons_succ]
  refine wpAnyH_take (i := 29) (oi := { dst := some 49, op := .build 24 #[(0, .tmp 22), (1, .tmp 25), (2, .tmp 28), (3, .tmp 31), (4, .tmp 35), (5, .tmp 38), (6, .tmp 42), (7, .tmp 45), (8, .tmp 48)], type := 24, pos := "l06_mux.go:290", after := #[{ on := 2, ground := .data }, { on := 5, ground := .data }, { on := 8, ground := .data }, { on := 11, ground := .data }, { on := 15, ground := .data }, { on := 18, ground := .data }, { on := 22, ground := .data }, { on := 25, ground := .data }, { on := 28, ground := .data }], guard := none }) (v := ?_) rfl (by kernel_rfl) (by kernel_rfl) (by kernel_rfl) (fun _ _ _ h => h) (Or.inl ⟨by rfl, ?_⟩) (by assumption) ?_
  rotate_left 1
  · (intro w' hSw; (try dsimp only at hSw); go_simp; try with_reducible rfl)
  try simp only [Act.put, List.setIfInBounds_toArray, List.set_cons_zero, List.set_cons_succ]
  rw [show IntKind.i64.wrap (x4 - 1000) = x4 - 1000 from wrapi _ (by omega) (by omega)]
  have RS4 := hide (unhide RS3).drew
  have HB4 := hide (unhide HB3).drew
  have k4 : w3.drew.cell? ⟨gn, 0, none⟩ = some (.int .i64 x0) ∧ w3.drew.cell? ⟨gn, 1, none⟩ = some (.int .i64 x1) ∧ w3.drew.cell? ⟨gn, 2, none⟩ = some (.int .i64 x2) ∧ w3.drew.cell? ⟨gn, 3, none⟩ = some (.int .i64 x3) ∧ w3.drew.cell? ⟨gn, 4, none⟩ = some (.int .i64 x4) ∧ w3.drew.cell? ⟨gn, 5, none⟩ = some (.int .i64 x5) ∧ w3.drew.cell? ⟨gn, 6, none⟩ = some (.int .i64 x6) ∧ w3.drew.cell? ⟨gf, 1, none⟩ = some (.string nm) ∧ w3.drew.cell? ⟨gf, 2, none⟩ = some (.string dt) := k3
  generalize w3.drew = w4 at RS4 HB4 k4 hHeld ⊢
  refine wpAnyH_ready (rs := [30]) (by kernel_rfl) (by simp) ?_
  refine AllReadyH.cons (o := { dst := none, op := .store 24 (.tmp 2) (.tmp 49), type := 0, pos := "l06_mux.go:290", after := #[{ on := 29, ground := .data }, { on := 0, ground := .phase }, { on := 1, ground := .phase }, { on := 2, ground := .phase }, { on := 3, ground := .phase }, { on := 4, ground := .phase }, { on := 5, ground := .phase }, { on := 6, ground := .phase }, { on := 7, ground := .phase }, { on := 8, ground := .phase }, { on := 9, ground := .phase }, { on := 10, ground := .phase }, { on := 11, ground := .phase }, { on := 12, ground := .phase }, { on := 13, ground := .phase }, { on := 14, ground := .phase }, { on := 15, ground := .phase }, { on := 16, ground := .phase }, { on := 17, ground := .phase }, { on := 18, ground := .phase }, { on := 19, ground := .phase }, { on := 20, ground := .phase }, { on := 21, ground := .phase }, { on := 22, ground := .phase }, { on := 23, ground := .phase }, { on := 24, ground := .phase }, { on := 25, ground := .phase }, { on := 26, ground := .phase }, { on := 27, ground := .phase }, { on := 28, ground := .phase }, { on := 29, ground := .phase }], guard := none }) rfl (fun K hK => ?_) AllReadyH.nil
  have f5 := (unhide RS4).S
  have f6 := (unhide RS4).F
  have G5 := hide (put9 (unhide RS4) (.int .i64 x0) (.int .i64 x1) (.int .i64 x2) (.int .i64 x3) (.int .i64 (x4 - 1000)) (.int .i64 x5) (.bool (x6 == 1)) (.string nm) (.string dt))
  have HB5 := hide ((((((((((unhide HB4).setCell (p := ⟨w.heap.size, 0, none⟩) (Nat.le_refl _) (.int .i64 x0)).setCell (p := ⟨w.heap.size, 1, none⟩) (Nat.le_refl _) (.int .i64 x1)).setCell (p := ⟨w.heap.size, 2, none⟩) (Nat.le_refl _) (.int .i64 x2)).setCell (p := ⟨w.heap.size, 3, none⟩) (Nat.le_refl _) (.int .i64 x3)).setCell (p := ⟨w.heap.size, 4, none⟩) (Nat.le_refl _) (.int .i64 (x4 - 1000))).setCell (p := ⟨w.heap.size, 5, none⟩) (Nat.le_refl _) (.int .i64 x5)).setCell (p := ⟨w.heap.size, 6, none⟩) (Nat.le_refl _) (.bool (x6 == 1))).setCell (p := ⟨w.heap.size, 7, none⟩) (Nat.le_refl _) (.string nm)).setCell (p := ⟨w.heap.size, 8, none⟩) (Nat.le_refl _) (.string dt))
  have k5 : (((((((((w4.setCell ⟨w.heap.size, 0, none⟩ (.int .i64 x0)).setCell ⟨w.heap.size, 1, none⟩ (.int .i64 x1)).setCell ⟨w.heap.size, 2, none⟩ (.int .i64 x2)).setCell ⟨w.heap.size, 3, none⟩ (.int .i64 x3)).setCell ⟨w.heap.size, 4, none⟩ (.int .i64 (x4 - 1000))).setCell ⟨w.heap.size, 5, none⟩ (.int .i64 x5)).setCell ⟨w.heap.size, 6, none⟩ (.bool (x6 == 1))).setCell ⟨w.heap.size, 7, none⟩ (.string nm)).setCell ⟨w.heap.size, 8, none⟩ (.string dt)).cell? ⟨gn, 0, none⟩ = some (.int .i64 x0) ∧ (((((((((w4.setCell ⟨w.heap.size, 0, none⟩ (.int .i64 x0)).setCell ⟨w.heap.size, 1, none⟩ (.int .i64 x1)).setCell ⟨w.heap.size, 2, none⟩ (.int .i64 x2)).setCell ⟨w.heap.size, 3, none⟩ (.int .i64 x3)).setCell ⟨w.heap.size, 4, none⟩ (.int .i64 (x4 - 1000))).setCell ⟨w.heap.size, 5, none⟩ (.int .i64 x5)).setCell ⟨w.heap.size, 6, none⟩ (.bool (x6 == 1))).setCell ⟨w.heap.size, 7, none⟩ (.string nm)).setCell ⟨w.heap.size, 8, none⟩ (.string dt)).cell? ⟨gn, 1, none⟩ = some (.int .i64 x1) ∧ (((((((((w4.setCell ⟨w.heap.size, 0, none⟩ (.int .i64 x0)).setCell ⟨w.heap.size, 1, none⟩ (.int .i64 x1)).setCell ⟨w.heap.size, 2, none⟩ (.int .i64 x2)).setCell ⟨w.heap.size, 3, none⟩ (.int .i64 x3)).setCell ⟨w.heap.size, 4, none⟩ (.int .i64 (x4 - 1000))).setCell ⟨w.heap.size, 5, none⟩ (.int .i64 x5)).setCell ⟨w.heap.size, 6, none⟩ (.bool (x6 == 1))).setCell ⟨w.heap.size, 7, none⟩ (.string nm)).setCell ⟨w.heap.size, 8, none⟩ (.string dt)).cell? ⟨gn, 2, none⟩ = some (.int .i64 x2) ∧ (((((((((w4.setCell ⟨w.heap.size, 0, none⟩ (.int .i64 x0)).setCell ⟨w.heap.size, 1, none⟩ (.int .i64 x1)).setCell ⟨w.heap.size, 2, none⟩ (.int .i64 x2)).setCell ⟨w.heap.size, 3, none⟩ (.int .i64 x3)).setCell ⟨w.heap.size, 4, none⟩ (.int .i64 (x4 - 1000))).setCell ⟨w.heap.size, 5, none⟩ (.int .i64 x5)).setCell ⟨w.heap.size, 6, none⟩ (.bool (x6 == 1))).setCell ⟨w.heap.size, 7, none⟩ (.string nm)).setCell ⟨w.heap.size, 8, none⟩ (.string dt)).cell? ⟨gn, 3, none⟩ = some (.int .i64 x3) ∧ (((((((((w4.setCell ⟨w.heap.size, 0, none⟩ (.int .i64 x0)).setCell ⟨w.heap.size, 1, none⟩ (.int .i64 x1)).setCell ⟨w.heap.size, 2, none⟩ (.int .i64 x2)).setCell ⟨w.heap.size, 3, none⟩ (.int .i64 x3)).setCell ⟨w.heap.size, 4, none⟩ (.int .i64 (x4 - 1000))).setCell ⟨w.heap.size, 5, none⟩ (.int .i64 x5)).setCell ⟨w.heap.size, 6, none⟩ (.bool (x6 == 1))).setCell ⟨w.heap.size, 7, none⟩ (.string nm)).setCell ⟨w.heap.size, 8, none⟩ (.string dt)).cell? ⟨gn, 4, none⟩ = some (.int .i64 x4) ∧ (((((((((w4.setCell ⟨w.heap.size, 0, none⟩ (.int .i64 x0)).setCell ⟨w.heap.size, 1, none⟩ (.int .i64 x1)).setCell ⟨w.heap.size, 2, none⟩ (.int .i64 x2)).setCell ⟨w.heap.size, 3, none⟩ (.int .i64 x3)).setCell ⟨w.heap.size, 4, none⟩ (.int .i64 (x4 - 1000))).setCell ⟨w.heap.size, 5, none⟩ (.int .i64 x5)).setCell ⟨w.heap.size, 6, none⟩ (.bool (x6 == 1))).setCell ⟨w.heap.size, 7, none⟩ (.string nm)).setCell ⟨w.heap.size, 8, none⟩ (.string dt)).cell? ⟨gn, 5, none⟩ = some (.int .i64 x5) ∧ (((((((((w4.setCell ⟨w.heap.size, 0, none⟩ (.int .i64 x0)).setCell ⟨w.heap.size, 1, none⟩ (.int .i64 x1)).setCell ⟨w.heap.size, 2, none⟩ (.int .i64 x2)).setCell ⟨w.heap.size, 3, none⟩ (.int .i64 x3)).setCell ⟨w.heap.size, 4, none⟩ (.int .i64 (x4 - 1000))).setCell ⟨w.heap.size, 5, none⟩ (.int .i64 x5)).setCell ⟨w.heap.size, 6, none⟩ (.bool (x6 == 1))).setCell ⟨w.heap.size, 7, none⟩ (.string nm)).setCell ⟨w.heap.size, 8, none⟩ (.string dt)).cell? ⟨gn, 6, none⟩ = some (.int .i64 x6) ∧ (((((((((w4.setCell ⟨w.heap.size, 0, none⟩ (.int .i64 x0)).setCell ⟨w.heap.size, 1, none⟩ (.int .i64 x1)).setCell ⟨w.heap.size, 2, none⟩ (.int .i64 x2)).setCell ⟨w.heap.size, 3, none⟩ (.int .i64 x3)).setCell ⟨w.heap.size, 4, none⟩ (.int .i64 (x4 - 1000))).setCell ⟨w.heap.size, 5, none⟩ (.int .i64 x5)).setCell ⟨w.heap.size, 6, none⟩ (.bool (x6 == 1))).setCell ⟨w.heap.size, 7, none⟩ (.string nm)).setCell ⟨w.heap.size, 8, none⟩ (.string dt)).cell? ⟨gf, 1, none⟩ = some (.string nm) ∧ (((((((((w4.setCell ⟨w.heap.size, 0, none⟩ (.int .i64 x0)).setCell ⟨w.heap.size, 1, none⟩ (.int .i64 x1)).setCell ⟨w.heap.size, 2, none⟩ (.int .i64 x2)).setCell ⟨w.heap.size, 3, none⟩ (.int .i64 x3)).setCell ⟨w.heap.size, 4, none⟩ (.int .i64 (x4 - 1000))).setCell ⟨w.heap.size, 5, none⟩ (.int .i64 x5)).setCell ⟨w.heap.size, 6, none⟩ (.bool (x6 == 1))).setCell ⟨w.heap.size, 7, none⟩ (.string nm)).setCell ⟨w.heap.size, 8, none⟩ (.string dt)).cell? ⟨gf, 2, none⟩ = some (.string dt) := k_far hkn hkf k4
  go_simp
  clear f5 f6
  refine hK.out _ _ ?_ (fun hHeld30 => ?_)
  · exact k5
  clear hK K
  try simp only [Act.put, List.setIfInBounds_toArray, List.set_cons_zero, List.set_cons_succ]
  refine wpAnyH_take (i := 31) (oi := { dst := some 3, op := .assign (.const (.bool true)), type := 4, pos := "l06_mux.go:290", after := #[{ on := 30, ground := .chain }, { on := 0, ground := .phase }, { on := 1, ground := .phase }, { on := 2, ground := .phase }, { on := 3, ground := .phase }, { on := 4, ground := .phase }, { on := 5, ground := .phase }, { on := 6, ground := .phase }, { on := 7, ground := .phase }, { on := 8, ground := .phase }, { on := 9, ground := .phase }, { on := 10, ground := .phase }, { on := 11, ground := .phase }, { on := 12, ground := .phase }, { on := 13, ground := .phase }, { on := 14, ground := .phase }, { on := 15, ground := .phase }, { on := 16, ground := .phase }, { on := 17, ground := .phase }, { on := 18, ground := .phase }, { on := 19, ground := .phase }, { on := 20, ground := .phase }, { on := 21, ground := .phase }, { on := 22, ground := .phase }, { on := 23, ground := .phase }, { on := 24, ground := .phase }, { on := 25, ground := .phase }, { on := 26, ground := .phase }, { on := 27, ground := .phase }, { on := 28, ground := .phase }, { on := 29, ground := .phase }, { on := 30, ground := .phase }], guard := none }) (v := ?_) rfl (by kernel_rfl) (by kernel_rfl) (by kernel_rfl) (fun _ _ _ h => h) (Or.inl ⟨by rfl, ?_⟩) (by assumption) ?_
  rotate_left 1
  · (intro w' hSw; (try dsimp only at hSw); go_simp; try with_reducible rfl)
  try simp only [Act.put, List.setIfInBounds_toArray, List.set_cons_zero, List.set_cons_succ]
  refine wpAnyH_done (by kernel_rfl) ?_ _
  generalize (((((((((w4.setCell ⟨w.heap.size, 0, none⟩ (.int .i64 x0)).setCell ⟨w.heap.size, 1, none⟩ (.int .i64 x1)).setCell ⟨w.heap.size, 2, none⟩ (.int .i64 x2)).setCell ⟨w.heap.size, 3, none⟩ (.int .i64 x3)).setCell ⟨w.heap.size, 4, none⟩ (.int .i64 (x4 - 1000))).setCell ⟨w.heap.size, 5, none⟩ (.int .i64 x5)).setCell ⟨w.heap.size, 6, none⟩ (.bool (x6 == 1))).setCell ⟨w.heap.size, 7, none⟩ (.string nm)).setCell ⟨w.heap.size, 8, none⟩ (.string dt)) = w6 at G5 HB5 ⊢
  have z := (unhide G5).S
  go_wp2_with fail
  refine bodyPost_ret (v := .tuple #[.agg #[.int .i64 x0, .int .i64 x1, .int .i64 x2, .int .i64 x3, .int .i64 (x4 - 1000), .int .i64 x5, .bool (x6 == 1), .string nm, .string dt], .bool true]) (by simp [results, Tryd.results19, go_sem, z]) rfl ⟨rfl, unhide HB5⟩
end Go.Proofs.YtoplijjddhecgaaDoor
