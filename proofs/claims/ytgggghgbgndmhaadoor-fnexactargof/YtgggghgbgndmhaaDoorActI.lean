/- ActionOK, argsOK, titleOK, runeOK: what the program answers. -/
import Derived.Test.YtgggghgbgndmhaaDoorActM
import Derived.Test.YtgggghgbgndmhaaDoorStepI
namespace Go.Proofs.YtgggghgbgndmhaaDoor
open Go.ChangeShapes Go.WideShapes Go.ChangeAt Go.RowKit
set_option linter.unusedVariables false
set_option maxHeartbeats 400000 in
set_option maxRecDepth 100000 in
theorem iarg (x : Int) (w : World) : Calls Tryd.prog 28 #[.int .i64 x] w fun e w' => e = .returned (.bool (inB x (-1) 9999)) ∧ w' = w := by
  by_cases h : -1 ≤ x
  · by_cases h2 : x ≤ 9999
    · go_enter Tryd.func28, Tryd.ntmps28
      go_wp2_with fail
      go_ret
      exact ⟨ret_bool (b_true ⟨h, h2⟩), rfl⟩
    · go_enter Tryd.func28, Tryd.ntmps28
      go_wp2_with fail
      go_ret
      exact ⟨ret_bool (b_false (by omega)), rfl⟩
  · go_enter Tryd.func28, Tryd.ntmps28
    go_wp2_with fail
    go_ret
    exact ⟨ret_bool (b_false (by omega)), rfl⟩

set_option maxHeartbeats 400000 in
set_option maxRecDepth 100000 in
theorem iargs (a : Option Addr) (cap : Nat) (l : List Int) (hl : l.length ≤ 1048576) (w : World) (hr : RowV w a (cI l)) :
    Calls Tryd.prog 40 #[.slice a l.length cap] w fun e w' => e = .returned (.bool (argsB l)) ∧ w' = w := by
  have HR := hide hr
  have HCL := hide (cI_len l)
  clear hr
  by_cases h0 : 1 ≤ l.length
  · by_cases h8 : l.length ≤ 8
    · go_enter Tryd.func40, Tryd.ntmps40
      go_wp2_with fail
      go_loop [15] (fun i => ∃ k : Nat, k ≤ l.length ∧ i = .int .i64 k ∧ Hid (∀ q (h : q < l.length), q < k → inB l[q] (-1) 9999 = true)) (fun i => l.length - (intOf i).toNat)
      case atStart => exact ⟨0, by omega, rfl, fun q _ h => absurd h (Nat.not_lt_zero _)⟩
      case round =>
        obtain ⟨k, hk, rfl, HF⟩ := hrel
        by_cases hlt : k < l.length
        · obtain ⟨b, off, ha, hblt, hc⟩ := (unhide HR).at (by rw [unhide HCL]; omega)
          subst ha
          have hc1 : w.cell? ⟨b, off + k, none⟩ = some (.int .i64 l[k]) := hc k _ (cI_at l k hlt)
          have hlt' : (k : Int) < (l.length : Int) := by omega
          cases hi : inB l[k] (-1) 9999
          · have HV : Hid (argsB l = false) := by show _ = _; unfold argsB; rw [args_bad hlt hi]; simp
            clear hc HR HCL HF
            go_wp2_with (go_at_call 28; refine (iarg _ _).mono ?_; rintro e w2 ⟨rfl, hw⟩; subst w2; rw [hi])
            go_ret
            exact ⟨ret_bool (unhide HV).symm, rfl⟩
          · have HF2 : Hid (∀ q (h : q < l.length), q < k + 1 → inB l[q] (-1) 9999 = true) := fun q h hq => by
              by_cases e : q = k
              · subst e; exact hi
              · exact unhide HF q h (by omega)
            clear hc HR HCL HF
            go_wp2_with (go_at_call 28; refine (iarg _ _).mono ?_; rintro e w2 ⟨rfl, hw⟩; subst w2; rw [hi])
            go_round
            case rel => exact ⟨k + 1, by omega, by go_num, HF2⟩
            case measure => simp [intOf]; omega
        · have HV : Hid (argsB l = true) := by
            show _ = _; unfold argsB; rw [args_take_all fun q hq => unhide HF q hq (by omega)]; simp; omega
          go_wp2_with fail
          go_ret
          exact ⟨ret_bool (unhide HV).symm, rfl⟩
    · have HV : Hid (argsB l = false) := by show _ = _; unfold argsB; rw [decide_eq_false (by omega)]; rfl
      go_enter Tryd.func40, Tryd.ntmps40
      go_wp2_with fail
      go_ret
      exact ⟨ret_bool (unhide HV).symm, rfl⟩
  · have HV : Hid (argsB l = false) := by show _ = _; unfold argsB; rw [decide_eq_false (by omega)]; rfl
    go_enter Tryd.func40, Tryd.ntmps40
    go_wp2_with fail
    go_ret
    exact ⟨ret_bool (unhide HV).symm, rfl⟩

set_option maxHeartbeats 400000 in
set_option maxRecDepth 100000 in
theorem ititle (t : ByteArray) (ht : t.size ≤ 1048576) (w : World) :
    Calls Tryd.prog 41 #[.string t] w fun e w' => e = .returned (.bool (titleB t.data.toList)) ∧ w' = w := by
  by_cases h8 : t.size ≤ 40
  · go_enter Tryd.func41, Tryd.ntmps41
    go_wp2_with fail
    go_loop [3] (fun i => ∃ k : Nat, k ≤ t.size ∧ i = .int .i64 k ∧ Hid (∀ q (h : q < t.size), q < k → inB (t[q].toNat : Int) 32 126 = true)) (fun i => t.size - (intOf i).toNat)
    case atStart => exact ⟨0, by omega, rfl, fun q _ h => absurd h (Nat.not_lt_zero _)⟩
    case round =>
      obtain ⟨k, hk, rfl, HF⟩ := hrel
      by_cases hlt : k < t.size
      · have hlt' : (k : Int) < (t.size : Int) := by omega
        by_cases h1 : (t[k].toNat : Int) < 32
        · have HV : Hid (titleB t.data.toList = false) := by show _ = _; unfold titleB; rw [text_bad hlt (in_no (by omega))]; simp
          clear HF
          go_wp2_with fail
          go_ret
          exact ⟨ret_bool (unhide HV).symm, rfl⟩
        by_cases h2 : 126 < (t[k].toNat : Int)
        · have HV : Hid (titleB t.data.toList = false) := by show _ = _; unfold titleB; rw [text_bad hlt (in_no (by omega))]; simp
          clear HF
          go_wp2_with fail
          go_ret
          exact ⟨ret_bool (unhide HV).symm, rfl⟩
        · have HF2 : Hid (∀ q (h : q < t.size), q < k + 1 → inB (t[q].toNat : Int) 32 126 = true) := fun q h hq => by
            by_cases e : q = k
            · subst e; exact in_yes (by omega)
            · exact unhide HF q h (by omega)
          clear HF
          go_wp2_with fail
          go_round
          case rel => exact ⟨k + 1, by omega, by go_num, HF2⟩
          case measure => simp [intOf]; omega
      · have HV : Hid (titleB t.data.toList = true) := by
          show _ = _; unfold titleB; rw [text_take_all fun q hq => unhide HF q hq (by omega)]; simp; omega
        go_wp2_with fail
        go_ret
        exact ⟨ret_bool (unhide HV).symm, rfl⟩
  · have HV : Hid (titleB t.data.toList = false) := by show _ = _; unfold titleB; rw [decide_eq_false (by rw [text_len]; omega)]; rfl
    go_enter Tryd.func41, Tryd.ntmps41
    go_wp2_with fail
    go_ret
    exact ⟨ret_bool (unhide HV).symm, rfl⟩

theorem wrap32 (n : Int) (h0 : 32 ≤ n) (h1 : n ≤ 1114111) : IntKind.i32.wrap n = n := by
  simp only [IntKind.wrap, IntKind.signed, IntKind.bits]
  simp
  omega
set_option maxHeartbeats 400000 in
set_option maxRecDepth 100000 in
theorem irune (n : Int) (w : World) : Calls Tryd.prog 38 #[.int .i64 n] w fun e w' => e = .returned (.bool (runeB n)) ∧ w' = w := by
  by_cases h : 32 ≤ n
  · by_cases h2 : n ≤ 1114111
    · have hw := wrap32 n h h2
      by_cases h3 : n = 127
      · subst h3
        go_enter Tryd.func38, Tryd.ntmps38
        go_wp2_with fail
        go_ret
        exact ⟨ret_bool (b_false (by omega)), rfl⟩
      · have h3' : (n != 127) = true := by simpa using h3
        by_cases h4 : n < 55296
        · go_enter Tryd.func38, Tryd.ntmps38
          go_wp2
          go_ret
          exact ⟨ret_bool (b_true (by omega)), rfl⟩
        · by_cases h5 : n ≤ 57343
          · go_enter Tryd.func38, Tryd.ntmps38
            go_wp2
            go_ret
            exact ⟨ret_bool (b_false (by omega)), rfl⟩
          · go_enter Tryd.func38, Tryd.ntmps38
            go_wp2
            go_ret
            exact ⟨ret_bool (b_true (by omega)), rfl⟩
    · go_enter Tryd.func38, Tryd.ntmps38
      go_wp2_with fail
      go_ret
      exact ⟨ret_bool (b_false (by omega)), rfl⟩
  · go_enter Tryd.func38, Tryd.ntmps38
    go_wp2_with fail
    go_ret
    exact ⟨ret_bool (b_false (by omega)), rfl⟩
set_option maxHeartbeats 400000 in
set_option maxRecDepth 100000 in
theorem iact1 (n : Int) (pr : Bool) (a : Option Addr) (len cap : Nat) (l : List Int) (t : ByteArray) (hlen : l.length = len) (hl : l.length ≤ 1048576) (ht : t.size ≤ 1048576) (w : World) (hr : RowV w a (cI l)) (hT : StepsIn w) :
    Calls Tryd.prog 27 #[.agg #[.int .i64 1, .int .i64 n, .bool pr, .slice a len cap, .string t]] w fun e w' => e = .returned (.bool (actB 1 n pr l t.data.toList)) ∧ Below w.heap.size w w' := by
  have HR := hide hr
  have HP := hide hT.pos
  have HT := hide hT
  have hle : len ≤ 1048576 := by omega
  have HL := hide hlen
  have HL2 := hide hl
  clear hr hT hlen hl
  by_cases h0 : len = 0
  · subst h0
    have hb : bareB pr l = !pr := by unfold bareB; rw [unhide HL]; rfl
    have HBR := hide hb
    clear hb
    go_enter Tryd.func27, Tryd.ntmps27
    go_wp2_with (go_at_call 38; refine (irune _ _).mono ?_; rintro e w2 ⟨rfl, hw⟩; subst w2)
    all_goals
      go_ret
      refine ⟨ret_bool ?_, (Below.refl _ _).alloc (Nat.le_refl _) _⟩
      have hb := unhide HBR
      clear HR HT HBR
      rw [actB_1, hb]
      simp [emp_eq, *]
  · skip
    have hb : bareB pr l = false := by unfold bareB; rw [unhide HL, decide_eq_false h0]; rfl
    have HBR := hide hb
    have hpos : 0 < len := by omega
    have hz : ((len : Int) == 0) = false := by rw [beq_eq_false_iff_ne]; omega
    clear hb h0
    go_enter Tryd.func27, Tryd.ntmps27
    go_wp2_with (go_at_call 38; refine (irune _ _).mono ?_; rintro e w2 ⟨rfl, hw⟩; subst w2)
    all_goals
      go_ret
      refine ⟨ret_bool ?_, (Below.refl _ _).alloc (Nat.le_refl _) _⟩
      have hb := unhide HBR
      clear HR HT HBR
      rw [actB_1, hb]
      simp [*]
set_option maxHeartbeats 400000 in
set_option maxRecDepth 100000 in
theorem iact2 (n : Int) (pr : Bool) (a : Option Addr) (len cap : Nat) (l : List Int) (t : ByteArray) (hlen : l.length = len) (hl : l.length ≤ 1048576) (ht : t.size ≤ 1048576) (w : World) (hr : RowV w a (cI l)) (hT : StepsIn w) :
    Calls Tryd.prog 27 #[.agg #[.int .i64 2, .int .i64 n, .bool pr, .slice a len cap, .string t]] w fun e w' => e = .returned (.bool (actB 2 n pr l t.data.toList)) ∧ Below w.heap.size w w' := by
  have HR := hide hr
  have HP := hide hT.pos
  have HT := hide hT
  have hle : len ≤ 1048576 := by omega
  have HL := hide hlen
  have HL2 := hide hl
  obtain ⟨r0, r1, r2, r3, r4, he⟩ : ∃ r0 r1 r2 r3 r4, stepAt 0 n = ⟨r0, r1, r2, r3, r4⟩ := ⟨_, _, _, _, _, rfl⟩
  have hd := step_ground n
  rw [he] at hd
  change (r3 == 3) = ctrlB n at hd
  have HE := hide he
  have hfd : ∀ w : World, (Instr.field 68 (.agg #[.int .i64 r0, .int .i64 r1, .int .i64 r2, .int .i64 r3, .int .i64 r4]) 3).run Tryd.prog w = .ok (.int .i64 r3) w := fun _ => by kernel_rfl
  clear he
  clear hr hT hlen hl
  by_cases h0 : len = 0
  · subst h0
    have hb : bareB pr l = !pr := by unfold bareB; rw [unhide HL]; rfl
    have HBR := hide hb
    clear hb
    go_enter Tryd.func27, Tryd.ntmps27
    go_wp2_with (first | (go_at_call 39; refine (istep 0 n r0 r1 r2 r3 r4 (unhide HE) _ ((unhide HT).below ((Below.refl w.heap.size w).alloc (Nat.le_refl _) _) (unhide HP))).mono ?_; rintro e w2 ⟨rfl, hb⟩; have HB := hide (((Below.refl w.heap.size w).alloc (Nat.le_refl _) _).trans (hb.mono (by simp))); obtain ⟨hc, hf⟩ := bcell hb; have hrow := hide (((unhide HR).below ((Below.refl w.heap.size w).alloc (Nat.le_refl _) _)).below hb); clear hb hf) | (go_at_call 40; have h9 := iargs a cap l (unhide HL2) _ (unhide hrow); rw [unhide HL] at h9; refine h9.mono ?_; clear h9; rintro e w3 ⟨rfl, hw⟩; subst w3))
    all_goals
      go_ret
      refine ⟨ret_bool ?_, unhide HB⟩
      have hb := unhide HBR
      clear HR HT HBR
      rw [actB_2, hb]
      simp [emp_eq, *]
  · skip
    have hb : bareB pr l = false := by unfold bareB; rw [unhide HL, decide_eq_false h0]; rfl
    have HBR := hide hb
    have hpos : 0 < len := by omega
    have hz : ((len : Int) == 0) = false := by rw [beq_eq_false_iff_ne]; omega
    clear hb h0
    go_enter Tryd.func27, Tryd.ntmps27
    go_wp2_with (first | (go_at_call 39; refine (istep 0 n r0 r1 r2 r3 r4 (unhide HE) _ ((unhide HT).below ((Below.refl w.heap.size w).alloc (Nat.le_refl _) _) (unhide HP))).mono ?_; rintro e w2 ⟨rfl, hb⟩; have HB := hide (((Below.refl w.heap.size w).alloc (Nat.le_refl _) _).trans (hb.mono (by simp))); obtain ⟨hc, hf⟩ := bcell hb; have hrow := hide (((unhide HR).below ((Below.refl w.heap.size w).alloc (Nat.le_refl _) _)).below hb); clear hb hf) | (go_at_call 40; have h9 := iargs a cap l (unhide HL2) _ (unhide hrow); rw [unhide HL] at h9; refine h9.mono ?_; clear h9; rintro e w3 ⟨rfl, hw⟩; subst w3))
    all_goals
      go_ret
      refine ⟨ret_bool ?_, unhide HB⟩
      have hb := unhide HBR
      clear HR HT HBR
      rw [actB_2, hb]
      simp [*]
set_option maxHeartbeats 400000 in
set_option maxRecDepth 100000 in
theorem iact3 (n : Int) (pr : Bool) (a : Option Addr) (len cap : Nat) (l : List Int) (t : ByteArray) (hlen : l.length = len) (hl : l.length ≤ 1048576) (ht : t.size ≤ 1048576) (w : World) (hr : RowV w a (cI l)) (hT : StepsIn w) :
    Calls Tryd.prog 27 #[.agg #[.int .i64 3, .int .i64 n, .bool pr, .slice a len cap, .string t]] w fun e w' => e = .returned (.bool (actB 3 n pr l t.data.toList)) ∧ Below w.heap.size w w' := by
  have HR := hide hr
  have HP := hide hT.pos
  have HT := hide hT
  have hle : len ≤ 1048576 := by omega
  have HL := hide hlen
  have HL2 := hide hl
  obtain ⟨r0, r1, r2, r3, r4, he⟩ : ∃ r0 r1 r2 r3 r4, stepAt 1 n = ⟨r0, r1, r2, r3, r4⟩ := ⟨_, _, _, _, _, rfl⟩
  have hd := step_escape n
  rw [he] at hd
  change (r3 == 4) = escB n at hd
  have HE := hide he
  have hfd : ∀ w : World, (Instr.field 68 (.agg #[.int .i64 r0, .int .i64 r1, .int .i64 r2, .int .i64 r3, .int .i64 r4]) 3).run Tryd.prog w = .ok (.int .i64 r3) w := fun _ => by kernel_rfl
  clear he
  clear hr hT hlen hl
  by_cases h0 : len = 0
  · subst h0
    have hb : bareB pr l = !pr := by unfold bareB; rw [unhide HL]; rfl
    have HBR := hide hb
    clear hb
    go_enter Tryd.func27, Tryd.ntmps27
    go_wp2_with (first | (go_at_call 39; refine (istep 1 n r0 r1 r2 r3 r4 (unhide HE) _ ((unhide HT).below ((Below.refl w.heap.size w).alloc (Nat.le_refl _) _) (unhide HP))).mono ?_; rintro e w2 ⟨rfl, hb⟩; have HB := hide (((Below.refl w.heap.size w).alloc (Nat.le_refl _) _).trans (hb.mono (by simp))); obtain ⟨hc, hf⟩ := bcell hb; have hrow := hide (((unhide HR).below ((Below.refl w.heap.size w).alloc (Nat.le_refl _) _)).below hb); clear hb hf) | (go_at_call 40; have h9 := iargs a cap l (unhide HL2) _ (unhide hrow); rw [unhide HL] at h9; refine h9.mono ?_; clear h9; rintro e w3 ⟨rfl, hw⟩; subst w3))
    all_goals
      go_ret
      refine ⟨ret_bool ?_, unhide HB⟩
      have hb := unhide HBR
      clear HR HT HBR
      rw [actB_3, hb]
      simp [emp_eq, *]
  · skip
    have hb : bareB pr l = false := by unfold bareB; rw [unhide HL, decide_eq_false h0]; rfl
    have HBR := hide hb
    have hpos : 0 < len := by omega
    have hz : ((len : Int) == 0) = false := by rw [beq_eq_false_iff_ne]; omega
    clear hb h0
    go_enter Tryd.func27, Tryd.ntmps27
    go_wp2_with (first | (go_at_call 39; refine (istep 1 n r0 r1 r2 r3 r4 (unhide HE) _ ((unhide HT).below ((Below.refl w.heap.size w).alloc (Nat.le_refl _) _) (unhide HP))).mono ?_; rintro e w2 ⟨rfl, hb⟩; have HB := hide (((Below.refl w.heap.size w).alloc (Nat.le_refl _) _).trans (hb.mono (by simp))); obtain ⟨hc, hf⟩ := bcell hb; have hrow := hide (((unhide HR).below ((Below.refl w.heap.size w).alloc (Nat.le_refl _) _)).below hb); clear hb hf) | (go_at_call 40; have h9 := iargs a cap l (unhide HL2) _ (unhide hrow); rw [unhide HL] at h9; refine h9.mono ?_; clear h9; rintro e w3 ⟨rfl, hw⟩; subst w3))
    all_goals
      go_ret
      refine ⟨ret_bool ?_, unhide HB⟩
      have hb := unhide HBR
      clear HR HT HBR
      rw [actB_3, hb]
      simp [*]
set_option maxHeartbeats 400000 in
set_option maxRecDepth 100000 in
theorem iact4 (n : Int) (pr : Bool) (a : Option Addr) (len cap : Nat) (l : List Int) (t : ByteArray) (hlen : l.length = len) (hl : l.length ≤ 1048576) (ht : t.size ≤ 1048576) (w : World) (hr : RowV w a (cI l)) (hT : StepsIn w) :
    Calls Tryd.prog 27 #[.agg #[.int .i64 4, .int .i64 n, .bool pr, .slice a len cap, .string t]] w fun e w' => e = .returned (.bool (actB 4 n pr l t.data.toList)) ∧ Below w.heap.size w w' := by
  have HR := hide hr
  have HP := hide hT.pos
  have HT := hide hT
  have hle : len ≤ 1048576 := by omega
  have HL := hide hlen
  have HL2 := hide hl
  obtain ⟨r0, r1, r2, r3, r4, he⟩ : ∃ r0 r1 r2 r3 r4, stepAt 2 n = ⟨r0, r1, r2, r3, r4⟩ := ⟨_, _, _, _, _, rfl⟩
  have hd := step_csi n
  rw [he] at hd
  change (r3 == 5) = inB n 64 126 at hd
  have HE := hide he
  have hfd : ∀ w : World, (Instr.field 68 (.agg #[.int .i64 r0, .int .i64 r1, .int .i64 r2, .int .i64 r3, .int .i64 r4]) 3).run Tryd.prog w = .ok (.int .i64 r3) w := fun _ => by kernel_rfl
  clear he
  clear hr hT hlen hl
  by_cases h0 : len = 0
  · subst h0
    have hb : bareB pr l = !pr := by unfold bareB; rw [unhide HL]; rfl
    have HBR := hide hb
    clear hb
    go_enter Tryd.func27, Tryd.ntmps27
    go_wp2_with (first | (go_at_call 39; refine (istep 2 n r0 r1 r2 r3 r4 (unhide HE) _ ((unhide HT).below ((Below.refl w.heap.size w).alloc (Nat.le_refl _) _) (unhide HP))).mono ?_; rintro e w2 ⟨rfl, hb⟩; have HB := hide (((Below.refl w.heap.size w).alloc (Nat.le_refl _) _).trans (hb.mono (by simp))); obtain ⟨hc, hf⟩ := bcell hb; have hrow := hide (((unhide HR).below ((Below.refl w.heap.size w).alloc (Nat.le_refl _) _)).below hb); clear hb hf) | (go_at_call 40; have h9 := iargs a cap l (unhide HL2) _ (unhide hrow); rw [unhide HL] at h9; refine h9.mono ?_; clear h9; rintro e w3 ⟨rfl, hw⟩; subst w3))
    all_goals
      go_ret
      refine ⟨ret_bool ?_, unhide HB⟩
      skip
      clear HR HT HBR
      rw [actB_4]
      simp [emp_eq, *]
  · skip
    have hb : bareB pr l = false := by unfold bareB; rw [unhide HL, decide_eq_false h0]; rfl
    have HBR := hide hb
    have hpos : 0 < len := by omega
    have hz : ((len : Int) == 0) = false := by rw [beq_eq_false_iff_ne]; omega
    clear hb h0
    go_enter Tryd.func27, Tryd.ntmps27
    go_wp2_with (first | (go_at_call 39; refine (istep 2 n r0 r1 r2 r3 r4 (unhide HE) _ ((unhide HT).below ((Below.refl w.heap.size w).alloc (Nat.le_refl _) _) (unhide HP))).mono ?_; rintro e w2 ⟨rfl, hb⟩; have HB := hide (((Below.refl w.heap.size w).alloc (Nat.le_refl _) _).trans (hb.mono (by simp))); obtain ⟨hc, hf⟩ := bcell hb; have hrow := hide (((unhide HR).below ((Below.refl w.heap.size w).alloc (Nat.le_refl _) _)).below hb); clear hb hf) | (go_at_call 40; have h9 := iargs a cap l (unhide HL2) _ (unhide hrow); rw [unhide HL] at h9; refine h9.mono ?_; clear h9; rintro e w3 ⟨rfl, hw⟩; subst w3))
    all_goals
      go_ret
      refine ⟨ret_bool ?_, unhide HB⟩
      skip
      clear HR HT HBR
      rw [actB_4]
      simp [emp_eq, *]
set_option maxHeartbeats 400000 in
set_option maxRecDepth 100000 in
theorem iact5 (n : Int) (pr : Bool) (a : Option Addr) (len cap : Nat) (l : List Int) (t : ByteArray) (hlen : l.length = len) (hl : l.length ≤ 1048576) (ht : t.size ≤ 1048576) (w : World) (hr : RowV w a (cI l)) (hT : StepsIn w) :
    Calls Tryd.prog 27 #[.agg #[.int .i64 5, .int .i64 n, .bool pr, .slice a len cap, .string t]] w fun e w' => e = .returned (.bool (actB 5 n pr l t.data.toList)) ∧ Below w.heap.size w w' := by
  have HR := hide hr
  have HP := hide hT.pos
  have HT := hide hT
  have hle : len ≤ 1048576 := by omega
  have HL := hide hlen
  have HL2 := hide hl
  clear hr hT hlen hl
  by_cases h0 : len = 0
  · subst h0
    have hb : bareB pr l = !pr := by unfold bareB; rw [unhide HL]; rfl
    have HBR := hide hb
    clear hb
    go_enter Tryd.func27, Tryd.ntmps27
    go_wp2_with (go_at_call 41; refine (ititle _ ht _).mono ?_; rintro e w2 ⟨rfl, hw⟩; subst w2)
    all_goals
      go_ret
      refine ⟨ret_bool ?_, (Below.refl _ _).alloc (Nat.le_refl _) _⟩
      have hb := unhide HBR
      clear HR HT HBR
      rw [actB_5, hb]
      simp [*]
  · skip
    have hb : bareB pr l = false := by unfold bareB; rw [unhide HL, decide_eq_false h0]; rfl
    have HBR := hide hb
    have hpos : 0 < len := by omega
    have hz : ((len : Int) == 0) = false := by rw [beq_eq_false_iff_ne]; omega
    clear hb h0
    go_enter Tryd.func27, Tryd.ntmps27
    go_wp2_with (go_at_call 41; refine (ititle _ ht _).mono ?_; rintro e w2 ⟨rfl, hw⟩; subst w2)
    all_goals
      go_ret
      refine ⟨ret_bool ?_, (Below.refl _ _).alloc (Nat.le_refl _) _⟩
      have hb := unhide HBR
      clear HR HT HBR
      rw [actB_5, hb]
      simp [*]
set_option maxHeartbeats 400000 in
set_option maxRecDepth 100000 in
theorem iact0 (kd : Int) (h1 : ¬ kd = 1) (h2 : ¬ kd = 2) (h3 : ¬ kd = 3) (h4 : ¬ kd = 4) (h5 : ¬ kd = 5) (n : Int) (pr : Bool) (a : Option Addr) (len cap : Nat) (l : List Int) (t : ByteArray) (hlen : l.length = len) (hl : l.length ≤ 1048576) (ht : t.size ≤ 1048576) (w : World) (hr : RowV w a (cI l)) (hT : StepsIn w) :
    Calls Tryd.prog 27 #[.agg #[.int .i64 kd, .int .i64 n, .bool pr, .slice a len cap, .string t]] w fun e w' => e = .returned (.bool (actB kd n pr l t.data.toList)) ∧ Below w.heap.size w w' := by
  clear hr hT
  have HV : Hid (actB kd n pr l t.data.toList = false) := by show _ = _; unfold actB; rw [if_neg h1, if_neg h2, if_neg h3, if_neg h4, if_neg h5]
  have k1 : (kd == 1) = false := by simpa using h1
  have k2 : (kd == 2) = false := by simpa using h2
  have k3 : (kd == 3) = false := by simpa using h3
  have k4 : (kd == 4) = false := by simpa using h4
  have k5 : (kd == 5) = false := by simpa using h5
  clear h1 h2 h3 h4 h5 hlen
  go_enter Tryd.func27, Tryd.ntmps27
  go_wp2_with fail
  all_goals
    go_ret
    exact ⟨ret_bool (unhide HV).symm, (Below.refl _ _).alloc (Nat.le_refl _) _⟩
theorem iactok (kd n : Int) (pr : Bool) (a : Option Addr) (len cap : Nat) (l : List Int) (t : ByteArray) (hlen : l.length = len) (hl : l.length ≤ 1048576) (ht : t.size ≤ 1048576) (w : World) (hr : RowV w a (cI l)) (hT : StepsIn w) :
    Calls Tryd.prog 27 #[.agg #[.int .i64 kd, .int .i64 n, .bool pr, .slice a len cap, .string t]] w fun e w' => e = .returned (.bool (actB kd n pr l t.data.toList)) ∧ Below w.heap.size w w' := by
  by_cases h1 : kd = 1
  · subst h1; exact iact1 n pr a len cap l t hlen hl ht w hr hT
  by_cases h2 : kd = 2
  · subst h2; exact iact2 n pr a len cap l t hlen hl ht w hr hT
  by_cases h3 : kd = 3
  · subst h3; exact iact3 n pr a len cap l t hlen hl ht w hr hT
  by_cases h4 : kd = 4
  · subst h4; exact iact4 n pr a len cap l t hlen hl ht w hr hT
  by_cases h5 : kd = 5
  · subst h5; exact iact5 n pr a len cap l t hlen hl ht w hr hT
  exact iact0 kd h1 h2 h3 h4 h5 n pr a len cap l t hlen hl ht w hr hT
end Go.Proofs.YtgggghgbgndmhaaDoor
