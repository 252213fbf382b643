/- WriteRecords: what the specification answers. -/
import Derived.Test.YtgbbmonkhakjnaaDoorWrS
namespace Go.Proofs.YtgbbmonkhakjnaaDoor
open Go.ChangeShapes Go.WideShapes Go.ChangeAt Go.RowKit
set_option linter.unusedVariables false
set_option maxHeartbeats 2000000 in
set_option maxRecDepth 100000 in
theorem swrecs (d : ByteArray) (s : Int) (a : Option Addr) (cap n : Nat) (l : List ByteArray) (HN : Hid (l.length = n)) (hn : n ≤ 1048576) (HZ : Hid (∀ k (h : k < l.length), l[k].size ≤ 1048576)) (hd : Hid (d.size ≤ maxLen)) (d2 : ByteArray) (s2 c : Int) (H : Hid (WrIs d s l d2 s2 c)) (w : World) (hr : RowV w a (cS l)) :
    Calls Tryd.prog 6 #[.agg #[.string d, .int .i64 s], .slice a n cap] w fun e w' => e = .returned (.tuple #[.agg #[.string d2, .int .i64 s2], .int .i64 c]) ∧ Below w.heap.size w w' := by
  have B0 := hide (Go.Joins.below_alloc2 w (.cells #[.string d, .int .i64 s] 27) (.cells #[.string ⟨#[]⟩, .int .i64 0] 27))
  have A0 := hide ((BF.new w #[.string d, .int .i64 s] 27).alloc (.cells #[.string ⟨#[]⟩, .int .i64 0] 27))
  have Z0 := hide (BF.new (w.alloc (.cells #[.string d, .int .i64 s] 27)) #[.string ⟨#[]⟩, .int .i64 0] 27)
  rw [show (w.alloc (.cells #[.string d, .int .i64 s] 27)).heap.size = w.heap.size + 1 from by simp] at Z0
  have HR := hide (hr.below (unhide B0))
  have HCL := hide (cS_len l)
  have a0 := (unhide A0).S
  clear hr
  rcases unhide H with ⟨h1, rfl, rfl, rfl⟩ | ⟨h1, h2, rfl, rfl, rfl⟩ | ⟨h1, h2, h3, rfl, rfl, rfl⟩ | ⟨h1, h2, h3, h4, h5, h6, rfl⟩ | ⟨h1, h2, h3, h4, rfl, h6, rfl⟩
  · rw [unhide HN] at h1
    have b1 : (4096 : Int) < (n : Int) := by omega
    have kz := (unhide Z0).S
    have kf := (unhide Z0).F
    clear H
    go_enter Tryd.func6, Tryd.ntmps6
    go_wp2_with fail
    refine bodyPost_ret (v := .tuple #[.agg #[.string ⟨#[]⟩, .int .i64 0], .int .i64 2]) (by simp [results, Tryd.results6, go_sem]) rfl ⟨rfl, ?_⟩
    first | exact unhide B0 | (repeat refine Below.setCell ?_ (by exact Nat.le_succ _) _; exact unhide B0)
  · rw [unhide HN] at h1
    have b1 : ¬ (4096 : Int) < (n : Int) := by omega
    have HOK := hide h2.symm
    clear H h2
    go_enter Tryd.func6, Tryd.ntmps6
    go_wp2_with fail
    refine (sstoreok d s hd false HOK _).mono ?_
    rintro e w1 ⟨rfl, hb1⟩
    have B1 := hide ((unhide B0).trans (hb1.mono (unhide B0).size))
    have A1' := hide ((unhide A0).below hb1)
    have Z1' := hide ((unhide Z0).below hb1)
    clear hb1 A0 B0 Z0
    clear a0
    have ka := (unhide A1').S
    have kz := (unhide Z1').S
    have kf := (unhide Z1').F
    go_wp2_with fail
    refine bodyPost_ret (v := .tuple #[.agg #[.string ⟨#[]⟩, .int .i64 0], .int .i64 1]) (by simp [results, Tryd.results6, go_sem, kz]) rfl ⟨rfl, ?_⟩
    repeat refine Below.setCell ?_ (by first | exact Nat.le_succ _ | exact Nat.le_refl _) _
    exact unhide B1
  · rw [unhide HN] at h1
    have b1 : ¬ (4096 : Int) < (n : Int) := by omega
    have HOK := hide h2.symm
    have HK := hide h3
    clear H h2 h3
    go_enter Tryd.func6, Tryd.ntmps6
    go_wp2_with fail
    refine (sstoreok d s hd true HOK _).mono ?_
    rintro e w1 ⟨rfl, hb1⟩
    have B1 := hide ((unhide B0).trans (hb1.mono (unhide B0).size))
    have A1' := hide ((unhide A0).below hb1)
    have Z1' := hide ((unhide Z0).below hb1)
    have HR1 := hide ((unhide HR).below hb1)
    clear hb1 A0 B0 Z0 HR a0
    go_wp2_with fail
    go_loopw [6] (fun i wr => ∃ k : Nat, k ≤ n ∧ i = .int .i64 k ∧ Hid (∀ q (h : q < l.length), q < k → inB (l[q].size : Int) 1 1000 = true) ∧ w1 = wr) (fun i _ => n - (intOf i).toNat)
    case atStart => exact ⟨0, by omega, rfl, fun q _ h => absurd h (Nat.not_lt_zero _), rfl⟩
    case round =>
      obtain ⟨k, hk, rfl, HF, hwr⟩ := hrel
      subst hwr
      by_cases hlt : k < n
      · have hlk : k < l.length := by rw [unhide HN]; exact hlt
        obtain ⟨b, off, ha, hblt, hc⟩ := (unhide HR1).at (by rw [unhide HCL, unhide HN]; omega)
        subst ha
        obtain ⟨t, et⟩ : ∃ t, t = l[k] := ⟨_, rfl⟩
        have x0' := hc k _ (cS_at l k hlk)
        rw [← et] at x0'
        obtain ⟨T, hT⟩ : ∃ T : Nat, T = t.size := ⟨_, rfl⟩
        have lt : (t.size : Int) = (T : Int) := by rw [hT]
        have hTm : T ≤ 1048576 := by rw [hT, et]; exact unhide HZ k hlk
        have HTE : Hid ((l[k].size : Int) = (T : Int)) := by show _ = _; rw [← et, hT]
        have i1 : (k : Int) < (n : Int) := by omega
        have i0 : (0 : Int) ≤ (k : Int) := by omega
        clear hc et hT
        go_wp2_with fail
        refine (sin (T : Int) 1 1000 _).mono ?_
        rintro e w2 ⟨rfl, hw⟩
        subst hw
        cases hin : inB (T : Int) 1 1000 with
        | false =>
          have ka := (unhide A1').S
          have kz := (unhide Z1').S
          have kf := (unhide Z1').F
          go_wp2_with fail
          refine bodyPost_ret (v := .tuple #[.agg #[.string ⟨#[]⟩, .int .i64 0], .int .i64 4]) (by simp [results, Tryd.results6, go_sem, kz]) rfl ⟨rfl, ?_⟩
          repeat refine Below.setCell ?_ (by first | exact Nat.le_succ _ | exact Nat.le_refl _) _
          exact unhide B1
        | true =>
          have HF2 : Hid (∀ q (h : q < l.length), q < k + 1 → inB (l[q].size : Int) 1 1000 = true) := fun q h hq => by
            by_cases e : q = k
            · subst e; rw [unhide HTE]; exact hin
            · exact unhide HF q h (by omega)
          try rw [hin]
          clear HF
          go_wp2_with fail
          go_roundw
          case rel => exact ⟨k + 1, by omega, by go_num, HF2, trivial⟩
          case measure => simp [intOf]; omega
      · exfalso
        have h := (rok_iff l).2 fun q h => unhide HF q h (by have := unhide HN; omega)
        rw [h] at HK; cases unhide HK
  · rw [unhide HN] at h1
    have b1 : ¬ (4096 : Int) < (n : Int) := by omega
    have HOK := hide h2.symm
    have HK := hide h3
    have H4 := hide h4
    have h5' := h5.symm
    have h6' := h6.symm
    subst h5' h6'
    clear H h2 h3 h4
    go_enter Tryd.func6, Tryd.ntmps6
    go_wp2_with fail
    refine (sstoreok d s hd true HOK _).mono ?_
    rintro e w1 ⟨rfl, hb1⟩
    have B1 := hide ((unhide B0).trans (hb1.mono (unhide B0).size))
    have A1' := hide ((unhide A0).below hb1)
    have Z1' := hide ((unhide Z0).below hb1)
    have HR1 := hide ((unhide HR).below hb1)
    clear hb1 A0 B0 Z0 HR a0
    go_wp2_with fail
    go_loopw [6] (fun i wr => ∃ k : Nat, k ≤ n ∧ i = .int .i64 k ∧ Hid (∀ q (h : q < l.length), q < k → inB (l[q].size : Int) 1 1000 = true) ∧ w1 = wr) (fun i _ => n - (intOf i).toNat)
    case atStart => exact ⟨0, by omega, rfl, fun q _ h => absurd h (Nat.not_lt_zero _), rfl⟩
    case round =>
      obtain ⟨k, hk, rfl, HF, hwr⟩ := hrel
      subst hwr
      by_cases hlt : k < n
      · have hlk : k < l.length := by rw [unhide HN]; exact hlt
        obtain ⟨b, off, ha, hblt, hc⟩ := (unhide HR1).at (by rw [unhide HCL, unhide HN]; omega)
        subst ha
        obtain ⟨t, et⟩ : ∃ t, t = l[k] := ⟨_, rfl⟩
        have x0' := hc k _ (cS_at l k hlk)
        rw [← et] at x0'
        obtain ⟨T, hT⟩ : ∃ T : Nat, T = t.size := ⟨_, rfl⟩
        have lt : (t.size : Int) = (T : Int) := by rw [hT]
        have hTm : T ≤ 1048576 := by rw [hT, et]; exact unhide HZ k hlk
        have HTE : Hid ((l[k].size : Int) = (T : Int)) := by show _ = _; rw [← et, hT]
        have i1 : (k : Int) < (n : Int) := by omega
        have i0 : (0 : Int) ≤ (k : Int) := by omega
        clear hc et hT
        go_wp2_with fail
        refine (sin (T : Int) 1 1000 _).mono ?_
        rintro e w2 ⟨rfl, hw⟩
        subst hw
        have hin : inB (T : Int) 1 1000 = true := by rw [← unhide HTE]; exact (rok_iff l).1 (unhide HK) k hlk
        have HF2 : Hid (∀ q (h : q < l.length), q < k + 1 → inB (l[q].size : Int) 1 1000 = true) := fun q h hq => by
          by_cases e : q = k
          · subst e; rw [unhide HTE]; exact hin
          · exact unhide HF q h (by omega)
        try rw [hin]
        clear HF
        go_wp2_with fail
        go_roundw
        case rel => exact ⟨k + 1, by omega, by go_num, HF2, trivial⟩
        case measure => simp [intOf]; omega
      · have i1 : ¬ (k : Int) < (n : Int) := by omega
        have ka := (unhide A1').S
        go_wp2_with fail
        refine (sl07w d s a cap n l HN h1 HK d.size rfl (sto_parts (unhide HOK).symm).1 _ (unhide HR1)).mono ?_
        rintro e w3 hpost
        obtain ⟨d', rfl, hb3⟩ : ∃ d', e = .returned (.tuple #[.agg #[.string d', .int .i64 s], .int .i64 7]) ∧ Below w1.heap.size w1 w3 := by
          rcases hpost with ⟨-, h, -⟩ | ⟨d', h, -, hb⟩
          · have := unhide H4; omega
          · exact ⟨d', h, hb⟩
        clear hpost
        have B3 := hide ((unhide B1).trans (hb3.mono (unhide B1).size))
        have A3 := hide (((unhide A1').below hb3).alloc (.cells #[.string d', .int .i64 s] 27))
        have Z3 := hide (((unhide Z1').below hb3).alloc (.cells #[.string d', .int .i64 s] 27))
        have B4 := hide ((unhide B3).alloc (unhide B3).size (.cells #[.string d', .int .i64 s] 27))
        clear hb3 ka
        have ka := (unhide A3).S
        have kz := (unhide Z3).S
        have kf := (unhide Z3).F
        go_wp2_with fail
        refine bodyPost_ret (v := .tuple #[.agg #[.string d, .int .i64 s], .int .i64 7]) (by simp [results, Tryd.results6, go_sem, kz]) rfl ⟨rfl, ?_⟩
        repeat refine Below.setCell ?_ (by first | exact Nat.le_succ _ | exact Nat.le_refl _) _
        exact unhide B4
  · rw [unhide HN] at h1
    have b1 : ¬ (4096 : Int) < (n : Int) := by omega
    have HOK := hide h2.symm
    have HK := hide h3
    have H4 := hide h4
    have h6' := h6.symm
    subst h6'
    clear H h2 h3 h4
    go_enter Tryd.func6, Tryd.ntmps6
    go_wp2_with fail
    refine (sstoreok d s hd true HOK _).mono ?_
    rintro e w1 ⟨rfl, hb1⟩
    have B1 := hide ((unhide B0).trans (hb1.mono (unhide B0).size))
    have A1' := hide ((unhide A0).below hb1)
    have Z1' := hide ((unhide Z0).below hb1)
    have HR1 := hide ((unhide HR).below hb1)
    clear hb1 A0 B0 Z0 HR a0
    go_wp2_with fail
    go_loopw [6] (fun i wr => ∃ k : Nat, k ≤ n ∧ i = .int .i64 k ∧ Hid (∀ q (h : q < l.length), q < k → inB (l[q].size : Int) 1 1000 = true) ∧ w1 = wr) (fun i _ => n - (intOf i).toNat)
    case atStart => exact ⟨0, by omega, rfl, fun q _ h => absurd h (Nat.not_lt_zero _), rfl⟩
    case round =>
      obtain ⟨k, hk, rfl, HF, hwr⟩ := hrel
      subst hwr
      by_cases hlt : k < n
      · have hlk : k < l.length := by rw [unhide HN]; exact hlt
        obtain ⟨b, off, ha, hblt, hc⟩ := (unhide HR1).at (by rw [unhide HCL, unhide HN]; omega)
        subst ha
        obtain ⟨t, et⟩ : ∃ t, t = l[k] := ⟨_, rfl⟩
        have x0' := hc k _ (cS_at l k hlk)
        rw [← et] at x0'
        obtain ⟨T, hT⟩ : ∃ T : Nat, T = t.size := ⟨_, rfl⟩
        have lt : (t.size : Int) = (T : Int) := by rw [hT]
        have hTm : T ≤ 1048576 := by rw [hT, et]; exact unhide HZ k hlk
        have HTE : Hid ((l[k].size : Int) = (T : Int)) := by show _ = _; rw [← et, hT]
        have i1 : (k : Int) < (n : Int) := by omega
        have i0 : (0 : Int) ≤ (k : Int) := by omega
        clear hc et hT
        go_wp2_with fail
        refine (sin (T : Int) 1 1000 _).mono ?_
        rintro e w2 ⟨rfl, hw⟩
        subst hw
        have hin : inB (T : Int) 1 1000 = true := by rw [← unhide HTE]; exact (rok_iff l).1 (unhide HK) k hlk
        have HF2 : Hid (∀ q (h : q < l.length), q < k + 1 → inB (l[q].size : Int) 1 1000 = true) := fun q h hq => by
          by_cases e : q = k
          · subst e; rw [unhide HTE]; exact hin
          · exact unhide HF q h (by omega)
        try rw [hin]
        clear HF
        go_wp2_with fail
        go_roundw
        case rel => exact ⟨k + 1, by omega, by go_num, HF2, trivial⟩
        case measure => simp [intOf]; omega
      · have i1 : ¬ (k : Int) < (n : Int) := by omega
        have ka := (unhide A1').S
        go_wp2_with fail
        refine (sl07w d s a cap n l HN h1 HK d.size rfl (sto_parts (unhide HOK).symm).1 _ (unhide HR1)).mono ?_
        rintro e w3 hpost
        obtain ⟨rfl, hb3⟩ : e = .returned (.tuple #[.agg #[.string (wrD d l), .int .i64 s], .int .i64 0]) ∧ Below w1.heap.size w1 w3 := by
          rcases hpost with ⟨h, -, hb⟩ | ⟨d', -, h, -⟩
          · exact ⟨h, hb⟩
          · have := unhide H4; omega
        clear hpost
        have B3 := hide ((unhide B1).trans (hb3.mono (unhide B1).size))
        have A3 := hide (((unhide A1').below hb3).alloc (.cells #[.string (wrD d l), .int .i64 s] 27))
        have Z3 := hide (((unhide Z1').below hb3).alloc (.cells #[.string (wrD d l), .int .i64 s] 27))
        have B4 := hide ((unhide B3).alloc (unhide B3).size (.cells #[.string (wrD d l), .int .i64 s] 27))
        clear hb3 ka
        have kw := (BF.new w3 #[.string (wrD d l), .int .i64 s] 27).S
        have kz := (unhide Z3).S
        have kf := (unhide Z3).F
        go_wp2_with fail
        refine bodyPost_ret (v := .tuple #[.agg #[.string (wrD d l), .int .i64 s], .int .i64 0]) (by simp [results, Tryd.results6, go_sem, kz]) rfl ⟨rfl, ?_⟩
        repeat refine Below.setCell ?_ (by first | exact Nat.le_succ _ | exact Nat.le_refl _) _
        exact unhide B4
end Go.Proofs.YtgbbmonkhakjnaaDoor
