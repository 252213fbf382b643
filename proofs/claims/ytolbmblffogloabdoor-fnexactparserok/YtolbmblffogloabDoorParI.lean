/- ParserOK: what the program answers. -/
import Derived.Test.YtolbmblffogloabDoorFullI
import Derived.Test.YtolbmblffogloabDoorActI
namespace Go.Proofs.YtolbmblffogloabDoor
open Go.ChangeShapes Go.WideShapes Go.ChangeAt Go.RowKit
set_option linter.unusedVariables false
/-- What the states keep lies in its variable. -/
def KeepsIn (w : World) : Prop := ∀ k : Nat, k < 7 → w.cell? ⟨0, k * 3, none⟩ = some (.bool (decide (k = 2))) ∧ w.cell? ⟨0, k * 3 + 1, none⟩ = some (.bool (decide (k = 4 ∨ k = 5))) ∧ w.cell? ⟨0, k * 3 + 2, none⟩ = some (.bool (decide (k = 6)))
theorem KeepsIn.pos {w : World} (h : KeepsIn w) : 0 < w.heap.size := World.block_lt_of_cell? w _ (h 0 (by decide)).1
theorem KeepsIn.below {w w' : World} {B : Nat} (h : KeepsIn w) (hb : Below B w w') (h0 : 0 < B) : KeepsIn w' := fun k hk =>
  ⟨(hb.cell (p := ⟨0, k * 3, none⟩) h0).trans (h k hk).1, (hb.cell (p := ⟨0, k * 3 + 1, none⟩) h0).trans (h k hk).2.1, (hb.cell (p := ⟨0, k * 3 + 2, none⟩) h0).trans (h k hk).2.2⟩
theorem iargsL (a : Option Addr) (len cap : Nat) (l : List Int) (hlen : l.length = len) (hl : l.length ≤ 1048576) (w : World) (hr : RowV w a (cI l)) :
    Calls Tryd.prog 46 #[.slice a len cap] w fun e w' => e = .returned (.bool (argsB l)) ∧ w' = w := by
  subst hlen; exact iargs a cap l hl w hr
theorem parB_0 (l : List Int) (pr : Bool) (t u : List UInt8) : parB 0 l pr t u = (bareB pr l && (emptyB u && (titleB t && (false || emptyB t)))) := rfl
theorem parB_1 (l : List Int) (pr : Bool) (t u : List UInt8) : parB 1 l pr t u = (bareB pr l && (emptyB u && (titleB t && (false || emptyB t)))) := rfl
theorem parB_2 (l : List Int) (pr : Bool) (t u : List UInt8) : parB 2 l pr t u = (argsB l && (emptyB u && (titleB t && (false || emptyB t)))) := rfl
theorem parB_3 (l : List Int) (pr : Bool) (t u : List UInt8) : parB 3 l pr t u = (bareB pr l && (emptyB u && (titleB t && (false || emptyB t)))) := rfl
theorem parB_4 (l : List Int) (pr : Bool) (t u : List UInt8) : parB 4 l pr t u = (bareB pr l && (emptyB u && (titleB t && (true || emptyB t)))) := rfl
theorem parB_5 (l : List Int) (pr : Bool) (t u : List UInt8) : parB 5 l pr t u = (bareB pr l && (emptyB u && (titleB t && (true || emptyB t)))) := rfl
theorem parB_6 (l : List Int) (pr : Bool) (t u : List UInt8) : parB 6 l pr t u = (bareB pr l && (begB u && (titleB t && (false || emptyB t)))) := rfl
set_option maxHeartbeats 400000 in
set_option maxRecDepth 100000 in
theorem ipar_0 (pr : Bool) (a : Option Addr) (len cap : Nat) (l : List Int) (t u : ByteArray) (hlen : l.length = len) (hl : l.length ≤ 1048576) (ht : t.size ≤ 1048576) (hu : u.size ≤ 1048576) (w : World) (hr : RowV w a (cI l)) (hK : KeepsIn w) (hT : RuneTabs w) :
    Calls Tryd.prog 20 #[.agg #[.int .i64 0, .slice a len cap, .bool pr, .string t, .string u]] w fun e w' => e = .returned (.bool (parB 0 l pr t.data.toList u.data.toList)) ∧ Below w.heap.size w w' := by
  have hk0 : w.cell? ⟨0, 0, none⟩ = some (.bool false) := (hK 0 (by decide)).1
  have hk1 : w.cell? ⟨0, 1, none⟩ = some (.bool false) := (hK 0 (by decide)).2.1
  have hk2 : w.cell? ⟨0, 2, none⟩ = some (.bool false) := (hK 0 (by decide)).2.2
  have hg := hK.pos
  have HR := hide hr
  have HP1 := hide hT.pos1
  have HP2 := hide hT.pos2
  have HT := hide hT
  have hle : len ≤ 1048576 := by omega
  have HL := hide hlen
  have HL2 := hide hl
  have HTS := hide ht
  have HU := hide hu
  clear hr hT hlen hl hK ht hu
  by_cases h0 : len = 0
  · subst h0
    have HBR : Hid (bareB pr l = !pr) := by show _ = _; unfold bareB; rw [unhide HL]; rfl
    go_enter Tryd.func20, Tryd.ntmps20
    go_wp2_with (first | (go_at_call 46; refine (iargsL a _ cap l (unhide HL) (unhide HL2) _ ((unhide HR).below (Go.Joins.below_alloc2 w _ _))).mono ?_; rintro e w3 ⟨rfl, hw⟩; subst w3) | (go_at_call 48; refine (ititle _ (unhide HTS) _).mono ?_; rintro e w4 ⟨rfl, hw⟩; subst w4) | (go_at_call 47; refine (ibegins u (unhide HU) _ ((unhide HT).below (Go.Joins.below_alloc2 w _ _) (unhide HP1) (unhide HP2))).mono ?_; rintro e w2 ⟨rfl, hb⟩; have HB := hide ((Go.Joins.below_alloc2 w _ _).trans (hb.mono (by simp; omega))); obtain ⟨hc, -⟩ := bcell hb; clear hb))
    all_goals
      go_ret
      refine ⟨ret_bool ?_, by first | exact unhide HB | exact Go.Joins.below_alloc2 w _ _⟩
      have hbr := unhide HBR
      clear HR HT HBR
      rw [parB_0, hbr]
      simp_all [emp_eq]
  · have HBR : Hid (bareB pr l = false) := by show _ = _; unfold bareB; rw [unhide HL, decide_eq_false h0]; rfl
    have hpos : 0 < len := by omega
    have hpos' : (0 : Int) < (len : Int) := by omega
    clear h0
    go_enter Tryd.func20, Tryd.ntmps20
    go_wp2_with (first | (go_at_call 46; refine (iargsL a _ cap l (unhide HL) (unhide HL2) _ ((unhide HR).below (Go.Joins.below_alloc2 w _ _))).mono ?_; rintro e w3 ⟨rfl, hw⟩; subst w3) | (go_at_call 48; refine (ititle _ (unhide HTS) _).mono ?_; rintro e w4 ⟨rfl, hw⟩; subst w4) | (go_at_call 47; refine (ibegins u (unhide HU) _ ((unhide HT).below (Go.Joins.below_alloc2 w _ _) (unhide HP1) (unhide HP2))).mono ?_; rintro e w2 ⟨rfl, hb⟩; have HB := hide ((Go.Joins.below_alloc2 w _ _).trans (hb.mono (by simp; omega))); obtain ⟨hc, -⟩ := bcell hb; clear hb))
    all_goals
      go_ret
      refine ⟨ret_bool ?_, by first | exact unhide HB | exact Go.Joins.below_alloc2 w _ _⟩
      have hbr := unhide HBR
      clear HR HT HBR
      rw [parB_0, hbr]
      simp_all
set_option maxHeartbeats 400000 in
set_option maxRecDepth 100000 in
theorem ipar_1 (pr : Bool) (a : Option Addr) (len cap : Nat) (l : List Int) (t u : ByteArray) (hlen : l.length = len) (hl : l.length ≤ 1048576) (ht : t.size ≤ 1048576) (hu : u.size ≤ 1048576) (w : World) (hr : RowV w a (cI l)) (hK : KeepsIn w) (hT : RuneTabs w) :
    Calls Tryd.prog 20 #[.agg #[.int .i64 1, .slice a len cap, .bool pr, .string t, .string u]] w fun e w' => e = .returned (.bool (parB 1 l pr t.data.toList u.data.toList)) ∧ Below w.heap.size w w' := by
  have hk0 : w.cell? ⟨0, 3, none⟩ = some (.bool false) := (hK 1 (by decide)).1
  have hk1 : w.cell? ⟨0, 4, none⟩ = some (.bool false) := (hK 1 (by decide)).2.1
  have hk2 : w.cell? ⟨0, 5, none⟩ = some (.bool false) := (hK 1 (by decide)).2.2
  have hg := hK.pos
  have HR := hide hr
  have HP1 := hide hT.pos1
  have HP2 := hide hT.pos2
  have HT := hide hT
  have hle : len ≤ 1048576 := by omega
  have HL := hide hlen
  have HL2 := hide hl
  have HTS := hide ht
  have HU := hide hu
  clear hr hT hlen hl hK ht hu
  by_cases h0 : len = 0
  · subst h0
    have HBR : Hid (bareB pr l = !pr) := by show _ = _; unfold bareB; rw [unhide HL]; rfl
    go_enter Tryd.func20, Tryd.ntmps20
    go_wp2_with (first | (go_at_call 46; refine (iargsL a _ cap l (unhide HL) (unhide HL2) _ ((unhide HR).below (Go.Joins.below_alloc2 w _ _))).mono ?_; rintro e w3 ⟨rfl, hw⟩; subst w3) | (go_at_call 48; refine (ititle _ (unhide HTS) _).mono ?_; rintro e w4 ⟨rfl, hw⟩; subst w4) | (go_at_call 47; refine (ibegins u (unhide HU) _ ((unhide HT).below (Go.Joins.below_alloc2 w _ _) (unhide HP1) (unhide HP2))).mono ?_; rintro e w2 ⟨rfl, hb⟩; have HB := hide ((Go.Joins.below_alloc2 w _ _).trans (hb.mono (by simp; omega))); obtain ⟨hc, -⟩ := bcell hb; clear hb))
    all_goals
      go_ret
      refine ⟨ret_bool ?_, by first | exact unhide HB | exact Go.Joins.below_alloc2 w _ _⟩
      have hbr := unhide HBR
      clear HR HT HBR
      rw [parB_1, hbr]
      simp_all [emp_eq]
  · have HBR : Hid (bareB pr l = false) := by show _ = _; unfold bareB; rw [unhide HL, decide_eq_false h0]; rfl
    have hpos : 0 < len := by omega
    have hpos' : (0 : Int) < (len : Int) := by omega
    clear h0
    go_enter Tryd.func20, Tryd.ntmps20
    go_wp2_with (first | (go_at_call 46; refine (iargsL a _ cap l (unhide HL) (unhide HL2) _ ((unhide HR).below (Go.Joins.below_alloc2 w _ _))).mono ?_; rintro e w3 ⟨rfl, hw⟩; subst w3) | (go_at_call 48; refine (ititle _ (unhide HTS) _).mono ?_; rintro e w4 ⟨rfl, hw⟩; subst w4) | (go_at_call 47; refine (ibegins u (unhide HU) _ ((unhide HT).below (Go.Joins.below_alloc2 w _ _) (unhide HP1) (unhide HP2))).mono ?_; rintro e w2 ⟨rfl, hb⟩; have HB := hide ((Go.Joins.below_alloc2 w _ _).trans (hb.mono (by simp; omega))); obtain ⟨hc, -⟩ := bcell hb; clear hb))
    all_goals
      go_ret
      refine ⟨ret_bool ?_, by first | exact unhide HB | exact Go.Joins.below_alloc2 w _ _⟩
      have hbr := unhide HBR
      clear HR HT HBR
      rw [parB_1, hbr]
      simp_all
set_option maxHeartbeats 400000 in
set_option maxRecDepth 100000 in
theorem ipar_2 (pr : Bool) (a : Option Addr) (len cap : Nat) (l : List Int) (t u : ByteArray) (hlen : l.length = len) (hl : l.length ≤ 1048576) (ht : t.size ≤ 1048576) (hu : u.size ≤ 1048576) (w : World) (hr : RowV w a (cI l)) (hK : KeepsIn w) (hT : RuneTabs w) :
    Calls Tryd.prog 20 #[.agg #[.int .i64 2, .slice a len cap, .bool pr, .string t, .string u]] w fun e w' => e = .returned (.bool (parB 2 l pr t.data.toList u.data.toList)) ∧ Below w.heap.size w w' := by
  have hk0 : w.cell? ⟨0, 6, none⟩ = some (.bool true) := (hK 2 (by decide)).1
  have hk1 : w.cell? ⟨0, 7, none⟩ = some (.bool false) := (hK 2 (by decide)).2.1
  have hk2 : w.cell? ⟨0, 8, none⟩ = some (.bool false) := (hK 2 (by decide)).2.2
  have hg := hK.pos
  have HR := hide hr
  have HP1 := hide hT.pos1
  have HP2 := hide hT.pos2
  have HT := hide hT
  have hle : len ≤ 1048576 := by omega
  have HL := hide hlen
  have HL2 := hide hl
  have HTS := hide ht
  have HU := hide hu
  clear hr hT hlen hl hK ht hu
  by_cases h0 : len = 0
  · subst h0
    have HBR : Hid (bareB pr l = !pr) := by show _ = _; unfold bareB; rw [unhide HL]; rfl
    go_enter Tryd.func20, Tryd.ntmps20
    go_wp2_with (first | (go_at_call 46; refine (iargsL a _ cap l (unhide HL) (unhide HL2) _ ((unhide HR).below (Go.Joins.below_alloc2 w _ _))).mono ?_; rintro e w3 ⟨rfl, hw⟩; subst w3) | (go_at_call 48; refine (ititle _ (unhide HTS) _).mono ?_; rintro e w4 ⟨rfl, hw⟩; subst w4) | (go_at_call 47; refine (ibegins u (unhide HU) _ ((unhide HT).below (Go.Joins.below_alloc2 w _ _) (unhide HP1) (unhide HP2))).mono ?_; rintro e w2 ⟨rfl, hb⟩; have HB := hide ((Go.Joins.below_alloc2 w _ _).trans (hb.mono (by simp; omega))); obtain ⟨hc, -⟩ := bcell hb; clear hb))
    all_goals
      go_ret
      refine ⟨ret_bool ?_, by first | exact unhide HB | exact Go.Joins.below_alloc2 w _ _⟩
      have hbr := unhide HBR
      clear HR HT HBR
      rw [parB_2]
      simp_all [emp_eq]
  · have HBR : Hid (bareB pr l = false) := by show _ = _; unfold bareB; rw [unhide HL, decide_eq_false h0]; rfl
    have hpos : 0 < len := by omega
    have hpos' : (0 : Int) < (len : Int) := by omega
    clear h0
    go_enter Tryd.func20, Tryd.ntmps20
    go_wp2_with (first | (go_at_call 46; refine (iargsL a _ cap l (unhide HL) (unhide HL2) _ ((unhide HR).below (Go.Joins.below_alloc2 w _ _))).mono ?_; rintro e w3 ⟨rfl, hw⟩; subst w3) | (go_at_call 48; refine (ititle _ (unhide HTS) _).mono ?_; rintro e w4 ⟨rfl, hw⟩; subst w4) | (go_at_call 47; refine (ibegins u (unhide HU) _ ((unhide HT).below (Go.Joins.below_alloc2 w _ _) (unhide HP1) (unhide HP2))).mono ?_; rintro e w2 ⟨rfl, hb⟩; have HB := hide ((Go.Joins.below_alloc2 w _ _).trans (hb.mono (by simp; omega))); obtain ⟨hc, -⟩ := bcell hb; clear hb))
    all_goals
      go_ret
      refine ⟨ret_bool ?_, by first | exact unhide HB | exact Go.Joins.below_alloc2 w _ _⟩
      have hbr := unhide HBR
      clear HR HT HBR
      rw [parB_2]
      simp_all [emp_eq]
set_option maxHeartbeats 400000 in
set_option maxRecDepth 100000 in
theorem ipar_3 (pr : Bool) (a : Option Addr) (len cap : Nat) (l : List Int) (t u : ByteArray) (hlen : l.length = len) (hl : l.length ≤ 1048576) (ht : t.size ≤ 1048576) (hu : u.size ≤ 1048576) (w : World) (hr : RowV w a (cI l)) (hK : KeepsIn w) (hT : RuneTabs w) :
    Calls Tryd.prog 20 #[.agg #[.int .i64 3, .slice a len cap, .bool pr, .string t, .string u]] w fun e w' => e = .returned (.bool (parB 3 l pr t.data.toList u.data.toList)) ∧ Below w.heap.size w w' := by
  have hk0 : w.cell? ⟨0, 9, none⟩ = some (.bool false) := (hK 3 (by decide)).1
  have hk1 : w.cell? ⟨0, 10, none⟩ = some (.bool false) := (hK 3 (by decide)).2.1
  have hk2 : w.cell? ⟨0, 11, none⟩ = some (.bool false) := (hK 3 (by decide)).2.2
  have hg := hK.pos
  have HR := hide hr
  have HP1 := hide hT.pos1
  have HP2 := hide hT.pos2
  have HT := hide hT
  have hle : len ≤ 1048576 := by omega
  have HL := hide hlen
  have HL2 := hide hl
  have HTS := hide ht
  have HU := hide hu
  clear hr hT hlen hl hK ht hu
  by_cases h0 : len = 0
  · subst h0
    have HBR : Hid (bareB pr l = !pr) := by show _ = _; unfold bareB; rw [unhide HL]; rfl
    go_enter Tryd.func20, Tryd.ntmps20
    go_wp2_with (first | (go_at_call 46; refine (iargsL a _ cap l (unhide HL) (unhide HL2) _ ((unhide HR).below (Go.Joins.below_alloc2 w _ _))).mono ?_; rintro e w3 ⟨rfl, hw⟩; subst w3) | (go_at_call 48; refine (ititle _ (unhide HTS) _).mono ?_; rintro e w4 ⟨rfl, hw⟩; subst w4) | (go_at_call 47; refine (ibegins u (unhide HU) _ ((unhide HT).below (Go.Joins.below_alloc2 w _ _) (unhide HP1) (unhide HP2))).mono ?_; rintro e w2 ⟨rfl, hb⟩; have HB := hide ((Go.Joins.below_alloc2 w _ _).trans (hb.mono (by simp; omega))); obtain ⟨hc, -⟩ := bcell hb; clear hb))
    all_goals
      go_ret
      refine ⟨ret_bool ?_, by first | exact unhide HB | exact Go.Joins.below_alloc2 w _ _⟩
      have hbr := unhide HBR
      clear HR HT HBR
      rw [parB_3, hbr]
      simp_all [emp_eq]
  · have HBR : Hid (bareB pr l = false) := by show _ = _; unfold bareB; rw [unhide HL, decide_eq_false h0]; rfl
    have hpos : 0 < len := by omega
    have hpos' : (0 : Int) < (len : Int) := by omega
    clear h0
    go_enter Tryd.func20, Tryd.ntmps20
    go_wp2_with (first | (go_at_call 46; refine (iargsL a _ cap l (unhide HL) (unhide HL2) _ ((unhide HR).below (Go.Joins.below_alloc2 w _ _))).mono ?_; rintro e w3 ⟨rfl, hw⟩; subst w3) | (go_at_call 48; refine (ititle _ (unhide HTS) _).mono ?_; rintro e w4 ⟨rfl, hw⟩; subst w4) | (go_at_call 47; refine (ibegins u (unhide HU) _ ((unhide HT).below (Go.Joins.below_alloc2 w _ _) (unhide HP1) (unhide HP2))).mono ?_; rintro e w2 ⟨rfl, hb⟩; have HB := hide ((Go.Joins.below_alloc2 w _ _).trans (hb.mono (by simp; omega))); obtain ⟨hc, -⟩ := bcell hb; clear hb))
    all_goals
      go_ret
      refine ⟨ret_bool ?_, by first | exact unhide HB | exact Go.Joins.below_alloc2 w _ _⟩
      have hbr := unhide HBR
      clear HR HT HBR
      rw [parB_3, hbr]
      simp_all
set_option maxHeartbeats 400000 in
set_option maxRecDepth 100000 in
theorem ipar_4 (pr : Bool) (a : Option Addr) (len cap : Nat) (l : List Int) (t u : ByteArray) (hlen : l.length = len) (hl : l.length ≤ 1048576) (ht : t.size ≤ 1048576) (hu : u.size ≤ 1048576) (w : World) (hr : RowV w a (cI l)) (hK : KeepsIn w) (hT : RuneTabs w) :
    Calls Tryd.prog 20 #[.agg #[.int .i64 4, .slice a len cap, .bool pr, .string t, .string u]] w fun e w' => e = .returned (.bool (parB 4 l pr t.data.toList u.data.toList)) ∧ Below w.heap.size w w' := by
  have hk0 : w.cell? ⟨0, 12, none⟩ = some (.bool false) := (hK 4 (by decide)).1
  have hk1 : w.cell? ⟨0, 13, none⟩ = some (.bool true) := (hK 4 (by decide)).2.1
  have hk2 : w.cell? ⟨0, 14, none⟩ = some (.bool false) := (hK 4 (by decide)).2.2
  have hg := hK.pos
  have HR := hide hr
  have HP1 := hide hT.pos1
  have HP2 := hide hT.pos2
  have HT := hide hT
  have hle : len ≤ 1048576 := by omega
  have HL := hide hlen
  have HL2 := hide hl
  have HTS := hide ht
  have HU := hide hu
  clear hr hT hlen hl hK ht hu
  by_cases h0 : len = 0
  · subst h0
    have HBR : Hid (bareB pr l = !pr) := by show _ = _; unfold bareB; rw [unhide HL]; rfl
    go_enter Tryd.func20, Tryd.ntmps20
    go_wp2_with (first | (go_at_call 46; refine (iargsL a _ cap l (unhide HL) (unhide HL2) _ ((unhide HR).below (Go.Joins.below_alloc2 w _ _))).mono ?_; rintro e w3 ⟨rfl, hw⟩; subst w3) | (go_at_call 48; refine (ititle _ (unhide HTS) _).mono ?_; rintro e w4 ⟨rfl, hw⟩; subst w4) | (go_at_call 47; refine (ibegins u (unhide HU) _ ((unhide HT).below (Go.Joins.below_alloc2 w _ _) (unhide HP1) (unhide HP2))).mono ?_; rintro e w2 ⟨rfl, hb⟩; have HB := hide ((Go.Joins.below_alloc2 w _ _).trans (hb.mono (by simp; omega))); obtain ⟨hc, -⟩ := bcell hb; clear hb))
    all_goals
      go_ret
      refine ⟨ret_bool ?_, by first | exact unhide HB | exact Go.Joins.below_alloc2 w _ _⟩
      have hbr := unhide HBR
      clear HR HT HBR
      rw [parB_4, hbr]
      simp_all [emp_eq]
  · have HBR : Hid (bareB pr l = false) := by show _ = _; unfold bareB; rw [unhide HL, decide_eq_false h0]; rfl
    have hpos : 0 < len := by omega
    have hpos' : (0 : Int) < (len : Int) := by omega
    clear h0
    go_enter Tryd.func20, Tryd.ntmps20
    go_wp2_with (first | (go_at_call 46; refine (iargsL a _ cap l (unhide HL) (unhide HL2) _ ((unhide HR).below (Go.Joins.below_alloc2 w _ _))).mono ?_; rintro e w3 ⟨rfl, hw⟩; subst w3) | (go_at_call 48; refine (ititle _ (unhide HTS) _).mono ?_; rintro e w4 ⟨rfl, hw⟩; subst w4) | (go_at_call 47; refine (ibegins u (unhide HU) _ ((unhide HT).below (Go.Joins.below_alloc2 w _ _) (unhide HP1) (unhide HP2))).mono ?_; rintro e w2 ⟨rfl, hb⟩; have HB := hide ((Go.Joins.below_alloc2 w _ _).trans (hb.mono (by simp; omega))); obtain ⟨hc, -⟩ := bcell hb; clear hb))
    all_goals
      go_ret
      refine ⟨ret_bool ?_, by first | exact unhide HB | exact Go.Joins.below_alloc2 w _ _⟩
      have hbr := unhide HBR
      clear HR HT HBR
      rw [parB_4, hbr]
      simp_all
set_option maxHeartbeats 400000 in
set_option maxRecDepth 100000 in
theorem ipar_5 (pr : Bool) (a : Option Addr) (len cap : Nat) (l : List Int) (t u : ByteArray) (hlen : l.length = len) (hl : l.length ≤ 1048576) (ht : t.size ≤ 1048576) (hu : u.size ≤ 1048576) (w : World) (hr : RowV w a (cI l)) (hK : KeepsIn w) (hT : RuneTabs w) :
    Calls Tryd.prog 20 #[.agg #[.int .i64 5, .slice a len cap, .bool pr, .string t, .string u]] w fun e w' => e = .returned (.bool (parB 5 l pr t.data.toList u.data.toList)) ∧ Below w.heap.size w w' := by
  have hk0 : w.cell? ⟨0, 15, none⟩ = some (.bool false) := (hK 5 (by decide)).1
  have hk1 : w.cell? ⟨0, 16, none⟩ = some (.bool true) := (hK 5 (by decide)).2.1
  have hk2 : w.cell? ⟨0, 17, none⟩ = some (.bool false) := (hK 5 (by decide)).2.2
  have hg := hK.pos
  have HR := hide hr
  have HP1 := hide hT.pos1
  have HP2 := hide hT.pos2
  have HT := hide hT
  have hle : len ≤ 1048576 := by omega
  have HL := hide hlen
  have HL2 := hide hl
  have HTS := hide ht
  have HU := hide hu
  clear hr hT hlen hl hK ht hu
  by_cases h0 : len = 0
  · subst h0
    have HBR : Hid (bareB pr l = !pr) := by show _ = _; unfold bareB; rw [unhide HL]; rfl
    go_enter Tryd.func20, Tryd.ntmps20
    go_wp2_with (first | (go_at_call 46; refine (iargsL a _ cap l (unhide HL) (unhide HL2) _ ((unhide HR).below (Go.Joins.below_alloc2 w _ _))).mono ?_; rintro e w3 ⟨rfl, hw⟩; subst w3) | (go_at_call 48; refine (ititle _ (unhide HTS) _).mono ?_; rintro e w4 ⟨rfl, hw⟩; subst w4) | (go_at_call 47; refine (ibegins u (unhide HU) _ ((unhide HT).below (Go.Joins.below_alloc2 w _ _) (unhide HP1) (unhide HP2))).mono ?_; rintro e w2 ⟨rfl, hb⟩; have HB := hide ((Go.Joins.below_alloc2 w _ _).trans (hb.mono (by simp; omega))); obtain ⟨hc, -⟩ := bcell hb; clear hb))
    all_goals
      go_ret
      refine ⟨ret_bool ?_, by first | exact unhide HB | exact Go.Joins.below_alloc2 w _ _⟩
      have hbr := unhide HBR
      clear HR HT HBR
      rw [parB_5, hbr]
      simp_all [emp_eq]
  · have HBR : Hid (bareB pr l = false) := by show _ = _; unfold bareB; rw [unhide HL, decide_eq_false h0]; rfl
    have hpos : 0 < len := by omega
    have hpos' : (0 : Int) < (len : Int) := by omega
    clear h0
    go_enter Tryd.func20, Tryd.ntmps20
    go_wp2_with (first | (go_at_call 46; refine (iargsL a _ cap l (unhide HL) (unhide HL2) _ ((unhide HR).below (Go.Joins.below_alloc2 w _ _))).mono ?_; rintro e w3 ⟨rfl, hw⟩; subst w3) | (go_at_call 48; refine (ititle _ (unhide HTS) _).mono ?_; rintro e w4 ⟨rfl, hw⟩; subst w4) | (go_at_call 47; refine (ibegins u (unhide HU) _ ((unhide HT).below (Go.Joins.below_alloc2 w _ _) (unhide HP1) (unhide HP2))).mono ?_; rintro e w2 ⟨rfl, hb⟩; have HB := hide ((Go.Joins.below_alloc2 w _ _).trans (hb.mono (by simp; omega))); obtain ⟨hc, -⟩ := bcell hb; clear hb))
    all_goals
      go_ret
      refine ⟨ret_bool ?_, by first | exact unhide HB | exact Go.Joins.below_alloc2 w _ _⟩
      have hbr := unhide HBR
      clear HR HT HBR
      rw [parB_5, hbr]
      simp_all
set_option maxHeartbeats 400000 in
set_option maxRecDepth 100000 in
theorem ipar_6 (pr : Bool) (a : Option Addr) (len cap : Nat) (l : List Int) (t u : ByteArray) (hlen : l.length = len) (hl : l.length ≤ 1048576) (ht : t.size ≤ 1048576) (hu : u.size ≤ 1048576) (w : World) (hr : RowV w a (cI l)) (hK : KeepsIn w) (hT : RuneTabs w) :
    Calls Tryd.prog 20 #[.agg #[.int .i64 6, .slice a len cap, .bool pr, .string t, .string u]] w fun e w' => e = .returned (.bool (parB 6 l pr t.data.toList u.data.toList)) ∧ Below w.heap.size w w' := by
  have hk0 : w.cell? ⟨0, 18, none⟩ = some (.bool false) := (hK 6 (by decide)).1
  have hk1 : w.cell? ⟨0, 19, none⟩ = some (.bool false) := (hK 6 (by decide)).2.1
  have hk2 : w.cell? ⟨0, 20, none⟩ = some (.bool true) := (hK 6 (by decide)).2.2
  have hg := hK.pos
  have HR := hide hr
  have HP1 := hide hT.pos1
  have HP2 := hide hT.pos2
  have HT := hide hT
  have hle : len ≤ 1048576 := by omega
  have HL := hide hlen
  have HL2 := hide hl
  have HTS := hide ht
  have HU := hide hu
  clear hr hT hlen hl hK ht hu
  by_cases h0 : len = 0
  · subst h0
    have HBR : Hid (bareB pr l = !pr) := by show _ = _; unfold bareB; rw [unhide HL]; rfl
    go_enter Tryd.func20, Tryd.ntmps20
    go_wp2_with (first | (go_at_call 46; refine (iargsL a _ cap l (unhide HL) (unhide HL2) _ ((unhide HR).below (Go.Joins.below_alloc2 w _ _))).mono ?_; rintro e w3 ⟨rfl, hw⟩; subst w3) | (go_at_call 48; refine (ititle _ (unhide HTS) _).mono ?_; rintro e w4 ⟨rfl, hw⟩; subst w4) | (go_at_call 47; refine (ibegins u (unhide HU) _ ((unhide HT).below (Go.Joins.below_alloc2 w _ _) (unhide HP1) (unhide HP2))).mono ?_; rintro e w2 ⟨rfl, hb⟩; have HB := hide ((Go.Joins.below_alloc2 w _ _).trans (hb.mono (by simp; omega))); obtain ⟨hc, -⟩ := bcell hb; clear hb))
    all_goals
      go_ret
      refine ⟨ret_bool ?_, by first | exact unhide HB | exact Go.Joins.below_alloc2 w _ _⟩
      have hbr := unhide HBR
      clear HR HT HBR
      rw [parB_6, hbr]
      simp_all [emp_eq]
  · have HBR : Hid (bareB pr l = false) := by show _ = _; unfold bareB; rw [unhide HL, decide_eq_false h0]; rfl
    have hpos : 0 < len := by omega
    have hpos' : (0 : Int) < (len : Int) := by omega
    clear h0
    go_enter Tryd.func20, Tryd.ntmps20
    go_wp2_with (first | (go_at_call 46; refine (iargsL a _ cap l (unhide HL) (unhide HL2) _ ((unhide HR).below (Go.Joins.below_alloc2 w _ _))).mono ?_; rintro e w3 ⟨rfl, hw⟩; subst w3) | (go_at_call 48; refine (ititle _ (unhide HTS) _).mono ?_; rintro e w4 ⟨rfl, hw⟩; subst w4) | (go_at_call 47; refine (ibegins u (unhide HU) _ ((unhide HT).below (Go.Joins.below_alloc2 w _ _) (unhide HP1) (unhide HP2))).mono ?_; rintro e w2 ⟨rfl, hb⟩; have HB := hide ((Go.Joins.below_alloc2 w _ _).trans (hb.mono (by simp; omega))); obtain ⟨hc, -⟩ := bcell hb; clear hb))
    all_goals
      go_ret
      refine ⟨ret_bool ?_, by first | exact unhide HB | exact Go.Joins.below_alloc2 w _ _⟩
      have hbr := unhide HBR
      clear HR HT HBR
      rw [parB_6, hbr]
      simp_all
set_option maxHeartbeats 400000 in
set_option maxRecDepth 100000 in
theorem ipar_out (st : Int) (ho : st < 0 ∨ 7 ≤ st) (pr : Bool) (a : Option Addr) (len cap : Nat) (l : List Int) (t u : ByteArray) (hlen : l.length = len) (hl : l.length ≤ 1048576) (ht : t.size ≤ 1048576) (hu : u.size ≤ 1048576) (w : World) (hr : RowV w a (cI l)) (hK : KeepsIn w) (hT : RuneTabs w) :
    Calls Tryd.prog 20 #[.agg #[.int .i64 st, .slice a len cap, .bool pr, .string t, .string u]] w fun e w' => e = .returned (.bool (parB st l pr t.data.toList u.data.toList)) ∧ Below w.heap.size w w' := by
  have HV : Hid (parB st l pr t.data.toList u.data.toList = false) := by
    show _ = _; unfold parB; rw [in_no (by omega)]; rfl
  clear hr hT hK hlen
  rcases ho with h | h
  · go_enter Tryd.func20, Tryd.ntmps20
    go_wp2_with fail
    go_ret
    exact ⟨ret_bool (unhide HV).symm, (Below.refl _ _).alloc (Nat.le_refl _) _⟩
  · have h' : ¬ st < 0 := by omega
    go_enter Tryd.func20, Tryd.ntmps20
    go_wp2_with fail
    go_ret
    exact ⟨ret_bool (unhide HV).symm, (Below.refl _ _).alloc (Nat.le_refl _) _⟩
theorem iparok (st : Int) (pr : Bool) (a : Option Addr) (len cap : Nat) (l : List Int) (t u : ByteArray) (hlen : l.length = len) (hl : l.length ≤ 1048576) (ht : t.size ≤ 1048576) (hu : u.size ≤ 1048576) (w : World) (hr : RowV w a (cI l)) (hK : KeepsIn w) (hT : RuneTabs w) :
    Calls Tryd.prog 20 #[.agg #[.int .i64 st, .slice a len cap, .bool pr, .string t, .string u]] w fun e w' => e = .returned (.bool (parB st l pr t.data.toList u.data.toList)) ∧ Below w.heap.size w w' := by
  by_cases ho : st < 0 ∨ 7 ≤ st
  · exact ipar_out st ho pr a len cap l t u hlen hl ht hu w hr hK hT
  obtain rfl | rfl | rfl | rfl | rfl | rfl | rfl : st = 0 ∨ st = 1 ∨ st = 2 ∨ st = 3 ∨ st = 4 ∨ st = 5 ∨ st = 6 := by omega
  · exact ipar_0 pr a len cap l t u hlen hl ht hu w hr hK hT
  · exact ipar_1 pr a len cap l t u hlen hl ht hu w hr hK hT
  · exact ipar_2 pr a len cap l t u hlen hl ht hu w hr hK hT
  · exact ipar_3 pr a len cap l t u hlen hl ht hu w hr hK hT
  · exact ipar_4 pr a len cap l t u hlen hl ht hu w hr hK hT
  · exact ipar_5 pr a len cap l t u hlen hl ht hu w hr hK hT
  · exact ipar_6 pr a len cap l t u hlen hl ht hu w hr hK hT
end Go.Proofs.YtolbmblffogloabDoor
