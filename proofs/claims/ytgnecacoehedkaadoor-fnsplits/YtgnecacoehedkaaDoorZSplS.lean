/- l05Split: what the specification answers. -/
import Derived.Deep.Cut
import Derived.Test.YtgnecacoehedkaaDoorZSplM
import Derived.Test.YtgnecacoehedkaaDoorZG19
import Derived.Test.YtgnecacoehedkaaDoorZG12
namespace Go.Proofs.YtgnecacoehedkaaDoor
open Go.ChangeShapes Go.WideShapes Go.ChangeAt Go.RowKit
abbrev oSplS0 : Oper := { dst := some 60, op := .move (.tmp 0), type := 84, pos := "l05_layout.go:146", after := #[], guard := none }
abbrev oSplS1 : Oper := { dst := some 61, op := .nilCheck (.tmp 60), type := 0, pos := "l05_layout.go:146", after := #[{ on := 0, ground := .data }], guard := none }
abbrev oSplS2 : Oper := { dst := some 62, op := .fieldAddr 100 (.tmp 61) 2, type := 0, pos := "l05_layout.go:146", after := #[{ on := 1, ground := .data }], guard := none }
abbrev oSplS3 : Oper := { dst := some 63, op := .load 4 (.tmp 62), type := 4, pos := "l05_layout.go:146", after := #[{ on := 2, ground := .data }], guard := none }
abbrev oSplS4 : Oper := { dst := some 64, op := .move (.tmp 0), type := 84, pos := "l05_layout.go:146", after := #[], guard := none }
abbrev oSplS5 : Oper := { dst := some 65, op := .nilCheck (.tmp 64), type := 0, pos := "l05_layout.go:146", after := #[{ on := 4, ground := .data }], guard := none }
abbrev oSplS6 : Oper := { dst := some 66, op := .fieldAddr 100 (.tmp 65) 1, type := 0, pos := "l05_layout.go:146", after := #[{ on := 5, ground := .data }], guard := none }
abbrev oSplS7 : Oper := { dst := some 67, op := .load 3 (.tmp 66), type := 3, pos := "l05_layout.go:146", after := #[{ on := 6, ground := .data }], guard := none }
abbrev oSplS8 : Oper := { dst := some 68, op := .build 53 #[(1, .tmp 63), (2, .tmp 67)], type := 53, pos := "l05_layout.go:146", after := #[{ on := 3, ground := .data }, { on := 7, ground := .data }], guard := none }
abbrev oSplS9 : Oper := { dst := some 69, op := .move (.tmp 1), type := 3, pos := "l05_layout.go:146", after := #[], guard := none }
abbrev oSplS10 : Oper := { dst := some 70, op := .move (.tmp 2), type := 3, pos := "l05_layout.go:146", after := #[], guard := none }
abbrev oSplS11 : Oper := { dst := some 71, op := .call { callee := .value (.func 35), args := #[.tmp 68, .tmp 69, .tmp 70], argTypes := #[53, 3, 3] }, type := 69, pos := "l05_layout.go:146", after := #[{ on := 8, ground := .data }, { on := 9, ground := .data }, { on := 10, ground := .data }], guard := none }
abbrev oSplS12 : Oper := { dst := some 59, op := .move (.tmp 71), type := 69, pos := "l05_layout.go:146", after := #[{ on := 11, ground := .data }], guard := none }
abbrev oSplS13 : Oper := { dst := some 72, op := .extract (.tmp 59) 0, type := 3, pos := "l05_layout.go:146", after := #[{ on := 12, ground := .data }], guard := none }
abbrev oSplS14 : Oper := { dst := some 73, op := .extract (.tmp 59) 1, type := 3, pos := "l05_layout.go:146", after := #[{ on := 12, ground := .data }, { on := 17, ground := .gcOnly Go.Departure.lateStores }], guard := none }
abbrev oSplS15 : Oper := { dst := some 74, op := .extract (.tmp 59) 2, type := 3, pos := "l05_layout.go:146", after := #[{ on := 12, ground := .data }, { on := 18, ground := .gcOnly Go.Departure.lateStores }], guard := none }
abbrev oSplS16 : Oper := { dst := some 75, op := .extract (.tmp 59) 3, type := 3, pos := "l05_layout.go:146", after := #[{ on := 12, ground := .data }, { on := 19, ground := .gcOnly Go.Departure.lateStores }], guard := none }
abbrev oSplS17 : Oper := { dst := some 14, op := .assign (.tmp 72), type := 3, pos := "l05_layout.go:146", after := #[{ on := 13, ground := .data }, { on := 11, ground := .chain }, { on := 0, ground := .phase }, { on := 1, ground := .phase }, { on := 2, ground := .phase }, { on := 3, ground := .phase }, { on := 4, ground := .phase }, { on := 5, ground := .phase }, { on := 6, ground := .phase }, { on := 7, ground := .phase }, { on := 8, ground := .phase }, { on := 9, ground := .phase }, { on := 10, ground := .phase }, { on := 11, ground := .phase }, { on := 12, ground := .phase }, { on := 13, ground := .phase }, { on := 14, ground := .textOnly Go.Departure.lateStores }, { on := 15, ground := .textOnly Go.Departure.lateStores }, { on := 16, ground := .textOnly Go.Departure.lateStores }], guard := none }
abbrev oSplS18 : Oper := { dst := some 15, op := .assign (.tmp 73), type := 3, pos := "l05_layout.go:146", after := #[{ on := 14, ground := .data }, { on := 17, ground := .chain }, { on := 0, ground := .phase }, { on := 1, ground := .phase }, { on := 2, ground := .phase }, { on := 3, ground := .phase }, { on := 4, ground := .phase }, { on := 5, ground := .phase }, { on := 6, ground := .phase }, { on := 7, ground := .phase }, { on := 8, ground := .phase }, { on := 9, ground := .phase }, { on := 10, ground := .phase }, { on := 11, ground := .phase }, { on := 12, ground := .phase }, { on := 13, ground := .phase }, { on := 14, ground := .phase }, { on := 15, ground := .textOnly Go.Departure.lateStores }, { on := 16, ground := .textOnly Go.Departure.lateStores }, { on := 17, ground := .phase }], guard := none }
abbrev oSplS19 : Oper := { dst := some 16, op := .assign (.tmp 74), type := 3, pos := "l05_layout.go:146", after := #[{ on := 15, ground := .data }, { on := 18, ground := .chain }, { on := 0, ground := .phase }, { on := 1, ground := .phase }, { on := 2, ground := .phase }, { on := 3, ground := .phase }, { on := 4, ground := .phase }, { on := 5, ground := .phase }, { on := 6, ground := .phase }, { on := 7, ground := .phase }, { on := 8, ground := .phase }, { on := 9, ground := .phase }, { on := 10, ground := .phase }, { on := 11, ground := .phase }, { on := 12, ground := .phase }, { on := 13, ground := .phase }, { on := 14, ground := .phase }, { on := 15, ground := .phase }, { on := 16, ground := .textOnly Go.Departure.lateStores }, { on := 17, ground := .phase }, { on := 18, ground := .phase }], guard := none }
abbrev oSplS20 : Oper := { dst := some 17, op := .assign (.tmp 75), type := 3, pos := "l05_layout.go:146", after := #[{ on := 16, ground := .data }, { on := 19, ground := .chain }, { on := 0, ground := .phase }, { on := 1, ground := .phase }, { on := 2, ground := .phase }, { on := 3, ground := .phase }, { on := 4, ground := .phase }, { on := 5, ground := .phase }, { on := 6, ground := .phase }, { on := 7, ground := .phase }, { on := 8, ground := .phase }, { on := 9, ground := .phase }, { on := 10, ground := .phase }, { on := 11, ground := .phase }, { on := 12, ground := .phase }, { on := 13, ground := .phase }, { on := 14, ground := .phase }, { on := 15, ground := .phase }, { on := 16, ground := .phase }, { on := 17, ground := .phase }, { on := 18, ground := .phase }, { on := 19, ground := .phase }], guard := none }
set_option maxHeartbeats 4000000 in
set_option maxRecDepth 100000 in
theorem ssplit (n f : Int) (rw : Bool) : ∀ (t : Tr) (b : Nat) (bs : List Nat) (W H : Int) (R : Bool) (S : Int) (w : World), R = decide (n ∈ t.panes) → S = t.sid n rw W H / 2 → TreeAt sBx w t b bs → bs.Nodup → t.fits W H = true → t.panes.Nodup → W ≤ 1000 → H ≤ 1000 →
  Calls Tryd.prog 48 #[.pointer (some ⟨b, 0, none⟩), .int .i64 W, .int .i64 H, .int .i64 n, .int .i64 f, .bool rw] w fun e w' => e = .returned (.bool R) ∧ ∃ bs', TreeAt sBx w' (t.spl n rw S f) b bs' ∧ (R = false → bs' = bs) ∧ Turned w w' bs := by
 intro t
 induction t using Tr.ind with
 | pane m =>
  intro b bs W H R S w hR hS ht hnd hf hpn hW hH
  obtain ⟨rfl, hbf⟩ := ht
  have c0 : w.cell? ⟨b, 0, none⟩ = some (.int .i64 m) := hbf.S 0
  have c3 : w.cell? ⟨b, 3, none⟩ = some (.bool true) := hbf.S 3
  have HBF := hide hbf
  have h2 := fits_two _ _ _ hf
  by_cases e : m = n
  ·subst e
   have hRt : R = true := by rw [hR]; simp [Tr.panes]
   subst hRt
   have HE : Hid ((Tr.pane m).spl m rw S f = .split rw S (.pane m) (.pane f)) := by show _ = _; rw [Tr.spl, if_pos rfl]
   have NW := hide (Nat.ne_of_lt hbf.lt)
   have F1 := hide ((unhide HBF).alloc (.cells #[.int .i64 m, .int .i64 0, .bool false, .bool true, .pointer none, .pointer none] 100))
   have d4 : (w.alloc (.cells #[.int .i64 m, .int .i64 0, .bool false, .bool true, .pointer none, .pointer none] 100)).cell? ⟨b, 4, none⟩ = some (.pointer none) := (unhide F1).S 4
   have d4f := (unhide F1).F 4
   have G := hide ((unhide F1).set 4 (by simp [sBx]) (.pointer (some ⟨w.heap.size, 0, none⟩)))
   have F2 : Hid (BF b #[.int .i64 m, .int .i64 0, .bool false, .bool true, .pointer (some ⟨w.heap.size, 0, none⟩), .pointer none] ((w.alloc (.cells #[.int .i64 m, .int .i64 0, .bool false, .bool true, .pointer none, .pointer none] 100)).setCell ⟨b, 4, none⟩ (.pointer (some ⟨w.heap.size, 0, none⟩)))) := by show BF _ _ _; have := unhide G; simp only [sBx] at this ⊢; simpa using this
   have N2 := hide ((BF.new w #[.int .i64 m, .int .i64 0, .bool false, .bool true, .pointer none, .pointer none] 100).far ⟨b, 4, none⟩ (.pointer (some ⟨w.heap.size, 0, none⟩)) (unhide NW))
   have T2 := hide ((Turned.of_below ((Below.refl w.heap.size w).alloc (Nat.le_refl _) (.cells #[.int .i64 m, .int .i64 0, .bool false, .bool true, .pointer none, .pointer none] 100)) [b]).trans (Turned.set (o := 4) (v := .pointer (some ⟨w.heap.size, 0, none⟩)) (List.mem_singleton.2 rfl)))
   clear G
   cases rw
   ·have hSe : S = W / 2 := by rw [hS]; rfl
    clear hbf hR hS hf hpn hnd
    go_enter Tryd.func48, Tryd.ntmps48
    go_upto_region 8 with fail
    rw [← hSe]
    clear hSe d4 d4f F1 c0 c3
    generalize (w.alloc (.cells #[.int .i64 m, .int .i64 0, .bool false, .bool true, .pointer none, .pointer none] 100)).setCell ⟨b, 4, none⟩ (.pointer (some ⟨w.heap.size, 0, none⟩)) = w2 at F2 N2 T2 ⊢
    have NW2 := hide (Nat.ne_of_lt (unhide F2).lt)
    have NA2 := hide (Nat.ne_of_lt (unhide N2).lt)
    have F3 := hide ((unhide F2).alloc (.cells #[.int .i64 f, .int .i64 0, .bool false, .bool true, .pointer none, .pointer none] 100))
    have d5 : (w2.alloc (.cells #[.int .i64 f, .int .i64 0, .bool false, .bool true, .pointer none, .pointer none] 100)).cell? ⟨b, 5, none⟩ = some (.pointer none) := (unhide F3).S 5
    have d5f := (unhide F3).F 5
    have G := hide ((unhide F3).set 5 (by simp) (.pointer (some ⟨w2.heap.size, 0, none⟩)))
    have F4 : Hid (BF b #[.int .i64 m, .int .i64 0, .bool false, .bool true, .pointer (some ⟨w.heap.size, 0, none⟩), .pointer (some ⟨w2.heap.size, 0, none⟩)] ((w2.alloc (.cells #[.int .i64 f, .int .i64 0, .bool false, .bool true, .pointer none, .pointer none] 100)).setCell ⟨b, 5, none⟩ (.pointer (some ⟨w2.heap.size, 0, none⟩)))) := by show BF _ _ _; have := unhide G; simpa using this
    have N4 := hide (((unhide N2).alloc (.cells #[.int .i64 f, .int .i64 0, .bool false, .bool true, .pointer none, .pointer none] 100)).far ⟨b, 5, none⟩ (.pointer (some ⟨w2.heap.size, 0, none⟩)) (unhide NW))
    have M4 := hide ((BF.new w2 #[.int .i64 f, .int .i64 0, .bool false, .bool true, .pointer none, .pointer none] 100).far ⟨b, 5, none⟩ (.pointer (some ⟨w2.heap.size, 0, none⟩)) (unhide NW2))
    have T4 := hide ((unhide T2).trans ((Turned.of_below ((Below.refl w2.heap.size w2).alloc (Nat.le_refl _) (.cells #[.int .i64 f, .int .i64 0, .bool false, .bool true, .pointer none, .pointer none] 100)) [b]).trans (Turned.set (o := 5) (v := .pointer (some ⟨w2.heap.size, 0, none⟩)) (List.mem_singleton.2 rfl))))
    clear G
    go_upto_region 9 with fail
    clear d5 d5f F3 F2 N2 T2
    generalize (w2.alloc (.cells #[.int .i64 f, .int .i64 0, .bool false, .bool true, .pointer none, .pointer none] 100)).setCell ⟨b, 5, none⟩ (.pointer (some ⟨w2.heap.size, 0, none⟩)) = w4 at F4 N4 M4 T4 ⊢
    have d : w4.cell? ⟨b, 3, none⟩ = some (.bool true) := (unhide F4).S 3
    have df := (unhide F4).F 3
    have G := hide ((unhide F4).set 3 (by simp) (.bool false))
    have F5 : Hid (BF b #[.int .i64 m, .int .i64 0, .bool false, .bool false, .pointer (some ⟨w.heap.size, 0, none⟩), .pointer (some ⟨w2.heap.size, 0, none⟩)] (w4.setCell ⟨b, 3, none⟩ (.bool false))) := by show BF _ _ _; have := unhide G; simpa using this
    have N5 := hide ((unhide N4).far ⟨b, 3, none⟩ (.bool false) (unhide NW))
    have M5 := hide ((unhide M4).far ⟨b, 3, none⟩ (.bool false) (unhide NW2))
    have T5 := hide ((unhide T4).trans (Turned.set (o := 3) (v := (.bool false)) (List.mem_singleton.2 rfl)))
    clear G F4 N4 M4 T4
    go_upto_region 10 with fail
    clear d df
    generalize w4.setCell ⟨b, 3, none⟩ (.bool false) = w5 at F5 N5 M5 T5 ⊢
    have d : w5.cell? ⟨b, 0, none⟩ = some (.int .i64 m) := (unhide F5).S 0
    have df := (unhide F5).F 0
    have G := hide ((unhide F5).set 0 (by simp) (.int .i64 0))
    have F6 : Hid (BF b #[.int .i64 0, .int .i64 0, .bool false, .bool false, .pointer (some ⟨w.heap.size, 0, none⟩), .pointer (some ⟨w2.heap.size, 0, none⟩)] (w5.setCell ⟨b, 0, none⟩ (.int .i64 0))) := by show BF _ _ _; have := unhide G; simpa using this
    have N6 := hide ((unhide N5).far ⟨b, 0, none⟩ (.int .i64 0) (unhide NW))
    have M6 := hide ((unhide M5).far ⟨b, 0, none⟩ (.int .i64 0) (unhide NW2))
    have T6 := hide ((unhide T5).trans (Turned.set (o := 0) (v := (.int .i64 0)) (List.mem_singleton.2 rfl)))
    clear G F5 N5 M5 T5
    go_upto_region 11 with fail
    clear d df
    generalize w5.setCell ⟨b, 0, none⟩ (.int .i64 0) = w6 at F6 N6 M6 T6 ⊢
    have d : w6.cell? ⟨b, 2, none⟩ = some (.bool false) := (unhide F6).S 2
    have df := (unhide F6).F 2
    have G := hide ((unhide F6).set 2 (by simp) (.bool false))
    have F7 : Hid (BF b #[.int .i64 0, .int .i64 0, .bool false, .bool false, .pointer (some ⟨w.heap.size, 0, none⟩), .pointer (some ⟨w2.heap.size, 0, none⟩)] (w6.setCell ⟨b, 2, none⟩ (.bool false))) := by show BF _ _ _; have := unhide G; simpa using this
    have N7 := hide ((unhide N6).far ⟨b, 2, none⟩ (.bool false) (unhide NW))
    have M7 := hide ((unhide M6).far ⟨b, 2, none⟩ (.bool false) (unhide NW2))
    have T7 := hide ((unhide T6).trans (Turned.set (o := 2) (v := (.bool false)) (List.mem_singleton.2 rfl)))
    clear G F6 N6 M6 T6
    go_upto_region 12 with fail
    clear d df
    generalize w6.setCell ⟨b, 2, none⟩ (.bool false) = w7 at F7 N7 M7 T7 ⊢
    have d : w7.cell? ⟨b, 1, none⟩ = some (.int .i64 0) := (unhide F7).S 1
    have df := (unhide F7).F 1
    have G := hide ((unhide F7).set 1 (by simp) (.int .i64 S))
    have F8 : Hid (BF b #[.int .i64 0, .int .i64 S, .bool false, .bool false, .pointer (some ⟨w.heap.size, 0, none⟩), .pointer (some ⟨w2.heap.size, 0, none⟩)] (w7.setCell ⟨b, 1, none⟩ (.int .i64 S))) := by show BF _ _ _; have := unhide G; simpa using this
    have N8 := hide ((unhide N7).far ⟨b, 1, none⟩ (.int .i64 S) (unhide NW))
    have M8 := hide ((unhide M7).far ⟨b, 1, none⟩ (.int .i64 S) (unhide NW2))
    have T8 := hide ((unhide T7).trans (Turned.set (o := 1) (v := (.int .i64 S)) (List.mem_singleton.2 rfl)))
    clear G F7 N7 M7 T7
    go_upto_region 13 with fail
    clear d df
    generalize w7.setCell ⟨b, 1, none⟩ (.int .i64 S) = w8 at F8 N8 M8 T8 ⊢
    go_wp2_with fail
    go_ret
    refine ⟨rfl, [b, w.heap.size, w2.heap.size], ?_, (fun h => nomatch h), unhide T8⟩
    rw [unhide HE]
    exact ⟨_, _, [w.heap.size], [w2.heap.size], rfl, unhide F8, ⟨rfl, unhide N8⟩, ⟨rfl, unhide M8⟩⟩
   ·have hSe : S = H / 2 := by rw [hS]; rfl
    clear hbf hR hS hf hpn hnd
    go_enter Tryd.func48, Tryd.ntmps48
    go_upto_region 8 with fail
    rw [← hSe]
    clear hSe d4 d4f F1 c0 c3
    generalize (w.alloc (.cells #[.int .i64 m, .int .i64 0, .bool false, .bool true, .pointer none, .pointer none] 100)).setCell ⟨b, 4, none⟩ (.pointer (some ⟨w.heap.size, 0, none⟩)) = w2 at F2 N2 T2 ⊢
    have NW2 := hide (Nat.ne_of_lt (unhide F2).lt)
    have NA2 := hide (Nat.ne_of_lt (unhide N2).lt)
    have F3 := hide ((unhide F2).alloc (.cells #[.int .i64 f, .int .i64 0, .bool false, .bool true, .pointer none, .pointer none] 100))
    have d5 : (w2.alloc (.cells #[.int .i64 f, .int .i64 0, .bool false, .bool true, .pointer none, .pointer none] 100)).cell? ⟨b, 5, none⟩ = some (.pointer none) := (unhide F3).S 5
    have d5f := (unhide F3).F 5
    have G := hide ((unhide F3).set 5 (by simp) (.pointer (some ⟨w2.heap.size, 0, none⟩)))
    have F4 : Hid (BF b #[.int .i64 m, .int .i64 0, .bool false, .bool true, .pointer (some ⟨w.heap.size, 0, none⟩), .pointer (some ⟨w2.heap.size, 0, none⟩)] ((w2.alloc (.cells #[.int .i64 f, .int .i64 0, .bool false, .bool true, .pointer none, .pointer none] 100)).setCell ⟨b, 5, none⟩ (.pointer (some ⟨w2.heap.size, 0, none⟩)))) := by show BF _ _ _; have := unhide G; simpa using this
    have N4 := hide (((unhide N2).alloc (.cells #[.int .i64 f, .int .i64 0, .bool false, .bool true, .pointer none, .pointer none] 100)).far ⟨b, 5, none⟩ (.pointer (some ⟨w2.heap.size, 0, none⟩)) (unhide NW))
    have M4 := hide ((BF.new w2 #[.int .i64 f, .int .i64 0, .bool false, .bool true, .pointer none, .pointer none] 100).far ⟨b, 5, none⟩ (.pointer (some ⟨w2.heap.size, 0, none⟩)) (unhide NW2))
    have T4 := hide ((unhide T2).trans ((Turned.of_below ((Below.refl w2.heap.size w2).alloc (Nat.le_refl _) (.cells #[.int .i64 f, .int .i64 0, .bool false, .bool true, .pointer none, .pointer none] 100)) [b]).trans (Turned.set (o := 5) (v := .pointer (some ⟨w2.heap.size, 0, none⟩)) (List.mem_singleton.2 rfl))))
    clear G
    go_upto_region 9 with fail
    clear d5 d5f F3 F2 N2 T2
    generalize (w2.alloc (.cells #[.int .i64 f, .int .i64 0, .bool false, .bool true, .pointer none, .pointer none] 100)).setCell ⟨b, 5, none⟩ (.pointer (some ⟨w2.heap.size, 0, none⟩)) = w4 at F4 N4 M4 T4 ⊢
    have d : w4.cell? ⟨b, 3, none⟩ = some (.bool true) := (unhide F4).S 3
    have df := (unhide F4).F 3
    have G := hide ((unhide F4).set 3 (by simp) (.bool false))
    have F5 : Hid (BF b #[.int .i64 m, .int .i64 0, .bool false, .bool false, .pointer (some ⟨w.heap.size, 0, none⟩), .pointer (some ⟨w2.heap.size, 0, none⟩)] (w4.setCell ⟨b, 3, none⟩ (.bool false))) := by show BF _ _ _; have := unhide G; simpa using this
    have N5 := hide ((unhide N4).far ⟨b, 3, none⟩ (.bool false) (unhide NW))
    have M5 := hide ((unhide M4).far ⟨b, 3, none⟩ (.bool false) (unhide NW2))
    have T5 := hide ((unhide T4).trans (Turned.set (o := 3) (v := (.bool false)) (List.mem_singleton.2 rfl)))
    clear G F4 N4 M4 T4
    go_upto_region 10 with fail
    clear d df
    generalize w4.setCell ⟨b, 3, none⟩ (.bool false) = w5 at F5 N5 M5 T5 ⊢
    have d : w5.cell? ⟨b, 0, none⟩ = some (.int .i64 m) := (unhide F5).S 0
    have df := (unhide F5).F 0
    have G := hide ((unhide F5).set 0 (by simp) (.int .i64 0))
    have F6 : Hid (BF b #[.int .i64 0, .int .i64 0, .bool false, .bool false, .pointer (some ⟨w.heap.size, 0, none⟩), .pointer (some ⟨w2.heap.size, 0, none⟩)] (w5.setCell ⟨b, 0, none⟩ (.int .i64 0))) := by show BF _ _ _; have := unhide G; simpa using this
    have N6 := hide ((unhide N5).far ⟨b, 0, none⟩ (.int .i64 0) (unhide NW))
    have M6 := hide ((unhide M5).far ⟨b, 0, none⟩ (.int .i64 0) (unhide NW2))
    have T6 := hide ((unhide T5).trans (Turned.set (o := 0) (v := (.int .i64 0)) (List.mem_singleton.2 rfl)))
    clear G F5 N5 M5 T5
    go_upto_region 11 with fail
    clear d df
    generalize w5.setCell ⟨b, 0, none⟩ (.int .i64 0) = w6 at F6 N6 M6 T6 ⊢
    have d : w6.cell? ⟨b, 2, none⟩ = some (.bool false) := (unhide F6).S 2
    have df := (unhide F6).F 2
    have G := hide ((unhide F6).set 2 (by simp) (.bool true))
    have F7 : Hid (BF b #[.int .i64 0, .int .i64 0, .bool true, .bool false, .pointer (some ⟨w.heap.size, 0, none⟩), .pointer (some ⟨w2.heap.size, 0, none⟩)] (w6.setCell ⟨b, 2, none⟩ (.bool true))) := by show BF _ _ _; have := unhide G; simpa using this
    have N7 := hide ((unhide N6).far ⟨b, 2, none⟩ (.bool true) (unhide NW))
    have M7 := hide ((unhide M6).far ⟨b, 2, none⟩ (.bool true) (unhide NW2))
    have T7 := hide ((unhide T6).trans (Turned.set (o := 2) (v := (.bool true)) (List.mem_singleton.2 rfl)))
    clear G F6 N6 M6 T6
    go_upto_region 12 with fail
    clear d df
    generalize w6.setCell ⟨b, 2, none⟩ (.bool true) = w7 at F7 N7 M7 T7 ⊢
    have d : w7.cell? ⟨b, 1, none⟩ = some (.int .i64 0) := (unhide F7).S 1
    have df := (unhide F7).F 1
    have G := hide ((unhide F7).set 1 (by simp) (.int .i64 S))
    have F8 : Hid (BF b #[.int .i64 0, .int .i64 S, .bool true, .bool false, .pointer (some ⟨w.heap.size, 0, none⟩), .pointer (some ⟨w2.heap.size, 0, none⟩)] (w7.setCell ⟨b, 1, none⟩ (.int .i64 S))) := by show BF _ _ _; have := unhide G; simpa using this
    have N8 := hide ((unhide N7).far ⟨b, 1, none⟩ (.int .i64 S) (unhide NW))
    have M8 := hide ((unhide M7).far ⟨b, 1, none⟩ (.int .i64 S) (unhide NW2))
    have T8 := hide ((unhide T7).trans (Turned.set (o := 1) (v := (.int .i64 S)) (List.mem_singleton.2 rfl)))
    clear G F7 N7 M7 T7
    go_upto_region 13 with fail
    clear d df
    generalize w7.setCell ⟨b, 1, none⟩ (.int .i64 S) = w8 at F8 N8 M8 T8 ⊢
    go_wp2_with fail
    go_ret
    refine ⟨rfl, [b, w.heap.size, w2.heap.size], ?_, (fun h => nomatch h), unhide T8⟩
    rw [unhide HE]
    exact ⟨_, _, [w.heap.size], [w2.heap.size], rfl, unhide F8, ⟨rfl, unhide N8⟩, ⟨rfl, unhide M8⟩⟩
  ·have hRf : R = false := by rw [hR]; simpa [Tr.panes] using fun h => e h.symm
   subst hRf
   have HE : Hid ((Tr.pane m).spl n rw S f = .pane m) := by show _ = _; rw [Tr.spl, if_neg e]
   clear hbf hR hS hf hpn hnd
   go_enter Tryd.func48, Tryd.ntmps48
   go_wp2_with fail
   go_ret
   exact ⟨rfl, [b], by rw [unhide HE]; exact ⟨rfl, unhide HBF⟩, fun _ => rfl, Turned.refl _ _⟩
 | split r s l t ihl ihr =>
  intro b bs W H R S w hR hS ht hnd hf hpn hW hH
  obtain ⟨bl, br, Ls, Rs, rfl, hbf, htl, htr⟩ := ht
  rw [List.nodup_cons, List.mem_append, List.nodup_append] at hnd
  obtain ⟨nb, nl, nr, nlr⟩ := hnd
  simp only [Tr.panes] at hpn
  rw [List.nodup_append] at hpn
  have NBL : Hid (b ∉ Ls) := fun h => nb (.inl h)
  have NBR : Hid (b ∉ Rs) := fun h => nb (.inr h)
  have NLR : Hid (∀ k ∈ Ls, ∀ c ∈ Rs, k = c → False) := fun k hk c hc e => nlr k hk c hc e
  have HBF := hide hbf
  have HTL := hide htl
  have HTR := hide htr
  have c1 : w.cell? ⟨b, 1, none⟩ = some (.int .i64 s) := hbf.S 1
  have c2 : w.cell? ⟨b, 2, none⟩ = some (.bool r) := hbf.S 2
  have c3 : w.cell? ⟨b, 3, none⟩ = some (.bool false) := hbf.S 3
  clear hbf htl htr nb nlr
  cases r
  ·simp only [Tr.fits, Bool.false_eq_true, if_false, Bool.and_eq_true] at hf
   have hfl := hf.1
   have hfr := hf.2
   have f1 := fits_two _ _ _ hfl
   have f2 := fits_two _ _ _ hfr
   have TP := hide (sparts ⟨0, false, s, 0, 0⟩ W H (by omega) (by omega))
   simp only [Bool.false_eq_true, if_false] at TP
   rw [szC_id (by omega)] at TP
   have U1 := hide (fun R0 S0 (hR0 : R0 = decide (n ∈ l.panes)) (hS0 : S0 = l.sid n rw s H / 2) w0 (h0 : TreeAt sBx w0 l bl Ls) => ihl bl Ls s H R0 S0 w0 hR0 hS0 h0 nl hfl hpn.1 (by omega) (by omega))
   have U2 := hide (fun R0 S0 (hR0 : R0 = decide (n ∈ t.panes)) (hS0 : S0 = t.sid n rw (W - s) H / 2) w0 (h0 : TreeAt sBx w0 t br Rs) => ihr br Rs (W - s) H R0 S0 w0 hR0 hS0 h0 nr hfr hpn.2.1 (by omega) (by omega))
   have ew1 : IntKind.i64.wrap (W - s) = W - s := wrapi _ (by omega) (by omega)
   by_cases hm : n ∈ l.panes
   ·have hRt : R = true := by rw [hR]; simp [Tr.panes, hm]
    have hSe : S = l.sid n rw s H / 2 := by rw [hS, Tr.sid, if_pos hm]; rfl
    have V1 := hide (fun w0 h0 => unhide U1 true S (decide_eq_true hm).symm hSe w0 h0)
    have HE : Hid ((Tr.split false s l t).spl n rw S f = .split false s (l.spl n rw S f) t) := by show _ = _; rw [Tr.spl, spl_id t n rw S f (fun h2 => hpn.2.2 n hm n h2 rfl)]
    clear ihl ihr hS hR U1 U2 hm hSe hf hfl hfr hpn nl nr
    subst hRt
    go_enter Tryd.func48, Tryd.ntmps48
    go_wp2_with fail
    refine wp_region_held_drew (S := fun w' => w'.cell? ⟨b, 1, none⟩ = some (.int .i64 s) ∧ w'.cell? ⟨b, 2, none⟩ = some (.bool false)) (by kernel_rfl) ⟨c1, c2⟩ (fun hHeld => ?_)
    refine wtv 0 (oi := oSplS0) ?_
    refine wtv 1 (oi := oSplS1) ?_
    refine wtv 2 (oi := oSplS2) ?_
    refine wtv 3 (oi := oSplS3) ?_
    refine wtv 4 (oi := oSplS4) ?_
    refine wtv 5 (oi := oSplS5) ?_
    refine wtv 6 (oi := oSplS6) ?_
    refine wtv 7 (oi := oSplS7) ?_
    refine wtv 8 (oi := oSplS8) ?_
    refine wtv 9 (oi := oSplS9) ?_
    refine wtv 10 (oi := oSplS10) ?_
    refine wpAnyH_ready (rs := [11]) (by kernel_rfl) (by simp) ?_
    refine AllReadyH.cons (o := oSplS11) rfl (fun K hK => ?_) AllReadyH.nil
    go_simp
    refine (unhide TP _).mono ?_
    rintro e w2 ⟨rfl, hb2⟩
    have F2 := hide ((unhide HBF).drew.below hb2)
    have L2 := hide ((unhide HTL).drew.below hb2)
    have R2 := hide ((unhide HTR).drew.below hb2)
    have T2 := hide (Turned.of_below (below_undrew (show Below w.heap.size w.drew w2 from hb2)) (b :: (Ls ++ Rs)))
    clear hb2
    go_wp2_with fail
    refine hK.out _ _ ?_ (fun hHeld11 => ?_)
    ·exact ⟨(unhide F2).S 1, (unhide F2).S 2⟩
    clear hK K
    try simp only [Act.put, qqA, qqB, qqC]
    refine wtv 12 (oi := oSplS12) ?_
    refine wtv 13 (oi := oSplS13) ?_
    refine wtv 14 (oi := oSplS14) ?_
    refine wtv 15 (oi := oSplS15) ?_
    refine wtv 16 (oi := oSplS16) ?_
    refine wtv 17 (oi := oSplS17) ?_
    refine wtv 18 (oi := oSplS18) ?_
    refine wtv 19 (oi := oSplS19) ?_
    refine wtv 20 (oi := oSplS20) ?_
    refine wpAnyH_done (by kernel_rfl) ?_ _
    have d4 : w2.cell? ⟨b, 4, none⟩ = some (.pointer (some ⟨bl, 0, none⟩)) := (unhide F2).S 4
    go_wp2_with fail
    refine (unhide V1 _ (unhide L2)).mono ?_
    rintro e w3 ⟨rfl, Ls3, ht3, hq3, hd3⟩
    have F3 := hide ((unhide F2).turned hd3 (unhide NBL))
    have L3 := hide ht3
    have R3 := hide ((unhide R2).turned hd3 (fun k hk h => unhide NLR k h k hk rfl))
    have T3 := hide ((unhide T2).trans (hd3.more (fun k hk => by simp [hk])))
    clear ht3 hd3
    go_wp2_with fail
    go_ret
    refine ⟨rfl, b :: (Ls3 ++ Rs), ?_, (fun h => nomatch h), unhide T3⟩
    rw [unhide HE]
    exact ⟨bl, br, Ls3, Rs, rfl, unhide F3, unhide L3, unhide R3⟩
   ·have hRt : R = decide (n ∈ t.panes) := by rw [hR]; simp [Tr.panes, hm]
    have hSe : S = t.sid n rw (W - s) H / 2 := by rw [hS, Tr.sid, if_neg hm]; rfl
    obtain ⟨S1, hS1⟩ : ∃ S1, S1 = l.sid n rw s H / 2 := ⟨_, rfl⟩
    have V1 := hide (fun w0 h0 => unhide U1 false S1 (decide_eq_false hm).symm hS1 w0 h0)
    rw [spl_id l n rw S1 f hm] at V1
    have V2 := hide (fun w0 h0 => unhide U2 R S hRt hSe w0 h0)
    have HE : Hid ((Tr.split false s l t).spl n rw S f = .split false s l (t.spl n rw S f)) := by show _ = _; rw [Tr.spl, spl_id l n rw S f hm]
    clear ihl ihr hS hR U1 U2 hm hSe hf hfl hfr hpn nl nr hRt hS1
    go_enter Tryd.func48, Tryd.ntmps48
    go_wp2_with fail
    refine wp_region_held_drew (S := fun w' => w'.cell? ⟨b, 1, none⟩ = some (.int .i64 s) ∧ w'.cell? ⟨b, 2, none⟩ = some (.bool false)) (by kernel_rfl) ⟨c1, c2⟩ (fun hHeld => ?_)
    refine wtv 0 (oi := oSplS0) ?_
    refine wtv 1 (oi := oSplS1) ?_
    refine wtv 2 (oi := oSplS2) ?_
    refine wtv 3 (oi := oSplS3) ?_
    refine wtv 4 (oi := oSplS4) ?_
    refine wtv 5 (oi := oSplS5) ?_
    refine wtv 6 (oi := oSplS6) ?_
    refine wtv 7 (oi := oSplS7) ?_
    refine wtv 8 (oi := oSplS8) ?_
    refine wtv 9 (oi := oSplS9) ?_
    refine wtv 10 (oi := oSplS10) ?_
    refine wpAnyH_ready (rs := [11]) (by kernel_rfl) (by simp) ?_
    refine AllReadyH.cons (o := oSplS11) rfl (fun K hK => ?_) AllReadyH.nil
    go_simp
    refine (unhide TP _).mono ?_
    rintro e w2 ⟨rfl, hb2⟩
    have F2 := hide ((unhide HBF).drew.below hb2)
    have L2 := hide ((unhide HTL).drew.below hb2)
    have R2 := hide ((unhide HTR).drew.below hb2)
    have T2 := hide (Turned.of_below (below_undrew (show Below w.heap.size w.drew w2 from hb2)) (b :: (Ls ++ Rs)))
    clear hb2
    go_wp2_with fail
    refine hK.out _ _ ?_ (fun hHeld11 => ?_)
    ·exact ⟨(unhide F2).S 1, (unhide F2).S 2⟩
    clear hK K
    try simp only [Act.put, qqA, qqB, qqC]
    refine wtv 12 (oi := oSplS12) ?_
    refine wtv 13 (oi := oSplS13) ?_
    refine wtv 14 (oi := oSplS14) ?_
    refine wtv 15 (oi := oSplS15) ?_
    refine wtv 16 (oi := oSplS16) ?_
    refine wtv 17 (oi := oSplS17) ?_
    refine wtv 18 (oi := oSplS18) ?_
    refine wtv 19 (oi := oSplS19) ?_
    refine wtv 20 (oi := oSplS20) ?_
    refine wpAnyH_done (by kernel_rfl) ?_ _
    have d4 : w2.cell? ⟨b, 4, none⟩ = some (.pointer (some ⟨bl, 0, none⟩)) := (unhide F2).S 4
    go_wp2_with fail
    refine (unhide V1 _ (unhide L2)).mono ?_
    rintro e w3 ⟨rfl, Ls3, ht3, hq3, hd3⟩
    have F3 := hide ((unhide F2).turned hd3 (unhide NBL))
    have L3 := hide ht3
    have R3 := hide ((unhide R2).turned hd3 (fun k hk h => unhide NLR k h k hk rfl))
    have T3 := hide ((unhide T2).trans (hd3.more (fun k hk => by simp [hk])))
    have d5 : w3.cell? ⟨b, 5, none⟩ = some (.pointer (some ⟨br, 0, none⟩)) := (unhide F3).S 5
    have E3 := hide (hq3 (by trivial))
    clear ht3 hd3 hq3
    go_wp2_with fail
    refine (unhide V2 _ (unhide R3)).mono ?_
    rintro e w4 ⟨rfl, Rs4, ht4, hq4, hd4⟩
    have F4 := hide ((unhide F3).turned hd4 (unhide NBR))
    have L4 := hide ((unhide L3).turned hd4 (fun k hk h => unhide NLR k (unhide E3 ▸ hk) k h rfl))
    have T4 := hide ((unhide T3).trans (hd4.more (fun k hk => by simp [hk])))
    have Q4 := hide hq4
    have R4 := hide ht4
    clear ht4 hd4 hq4
    go_wp2_with fail
    go_ret
    refine ⟨rfl, b :: (Ls3 ++ Rs4), ?_, (fun h => by rw [unhide E3, unhide Q4 h]), unhide T4⟩
    rw [unhide HE]
    exact ⟨bl, br, Ls3, Rs4, rfl, unhide F4, unhide L4, unhide R4⟩
  ·simp only [Tr.fits, if_true, Bool.and_eq_true] at hf
   have hfl := hf.1
   have hfr := hf.2
   have f1 := fits_two _ _ _ hfl
   have f2 := fits_two _ _ _ hfr
   have TP := hide (sparts ⟨0, true, s, 0, 0⟩ W H (by omega) (by omega))
   simp only [if_true] at TP
   rw [szC_id (by omega)] at TP
   have U1 := hide (fun R0 S0 (hR0 : R0 = decide (n ∈ l.panes)) (hS0 : S0 = l.sid n rw W s / 2) w0 (h0 : TreeAt sBx w0 l bl Ls) => ihl bl Ls W s R0 S0 w0 hR0 hS0 h0 nl hfl hpn.1 (by omega) (by omega))
   have U2 := hide (fun R0 S0 (hR0 : R0 = decide (n ∈ t.panes)) (hS0 : S0 = t.sid n rw W (H - s) / 2) w0 (h0 : TreeAt sBx w0 t br Rs) => ihr br Rs W (H - s) R0 S0 w0 hR0 hS0 h0 nr hfr hpn.2.1 (by omega) (by omega))
   have ew1 : IntKind.i64.wrap (H - s) = H - s := wrapi _ (by omega) (by omega)
   by_cases hm : n ∈ l.panes
   ·have hRt : R = true := by rw [hR]; simp [Tr.panes, hm]
    have hSe : S = l.sid n rw W s / 2 := by rw [hS, Tr.sid, if_pos hm]; rfl
    have V1 := hide (fun w0 h0 => unhide U1 true S (decide_eq_true hm).symm hSe w0 h0)
    have HE : Hid ((Tr.split true s l t).spl n rw S f = .split true s (l.spl n rw S f) t) := by show _ = _; rw [Tr.spl, spl_id t n rw S f (fun h2 => hpn.2.2 n hm n h2 rfl)]
    clear ihl ihr hS hR U1 U2 hm hSe hf hfl hfr hpn nl nr
    subst hRt
    go_enter Tryd.func48, Tryd.ntmps48
    go_wp2_with fail
    refine wp_region_held_drew (S := fun w' => w'.cell? ⟨b, 1, none⟩ = some (.int .i64 s) ∧ w'.cell? ⟨b, 2, none⟩ = some (.bool true)) (by kernel_rfl) ⟨c1, c2⟩ (fun hHeld => ?_)
    refine wtv 0 (oi := oSplS0) ?_
    refine wtv 1 (oi := oSplS1) ?_
    refine wtv 2 (oi := oSplS2) ?_
    refine wtv 3 (oi := oSplS3) ?_
    refine wtv 4 (oi := oSplS4) ?_
    refine wtv 5 (oi := oSplS5) ?_
    refine wtv 6 (oi := oSplS6) ?_
    refine wtv 7 (oi := oSplS7) ?_
    refine wtv 8 (oi := oSplS8) ?_
    refine wtv 9 (oi := oSplS9) ?_
    refine wtv 10 (oi := oSplS10) ?_
    refine wpAnyH_ready (rs := [11]) (by kernel_rfl) (by simp) ?_
    refine AllReadyH.cons (o := oSplS11) rfl (fun K hK => ?_) AllReadyH.nil
    go_simp
    refine (unhide TP _).mono ?_
    rintro e w2 ⟨rfl, hb2⟩
    have F2 := hide ((unhide HBF).drew.below hb2)
    have L2 := hide ((unhide HTL).drew.below hb2)
    have R2 := hide ((unhide HTR).drew.below hb2)
    have T2 := hide (Turned.of_below (below_undrew (show Below w.heap.size w.drew w2 from hb2)) (b :: (Ls ++ Rs)))
    clear hb2
    go_wp2_with fail
    refine hK.out _ _ ?_ (fun hHeld11 => ?_)
    ·exact ⟨(unhide F2).S 1, (unhide F2).S 2⟩
    clear hK K
    try simp only [Act.put, qqA, qqB, qqC]
    refine wtv 12 (oi := oSplS12) ?_
    refine wtv 13 (oi := oSplS13) ?_
    refine wtv 14 (oi := oSplS14) ?_
    refine wtv 15 (oi := oSplS15) ?_
    refine wtv 16 (oi := oSplS16) ?_
    refine wtv 17 (oi := oSplS17) ?_
    refine wtv 18 (oi := oSplS18) ?_
    refine wtv 19 (oi := oSplS19) ?_
    refine wtv 20 (oi := oSplS20) ?_
    refine wpAnyH_done (by kernel_rfl) ?_ _
    have d4 : w2.cell? ⟨b, 4, none⟩ = some (.pointer (some ⟨bl, 0, none⟩)) := (unhide F2).S 4
    go_wp2_with fail
    refine (unhide V1 _ (unhide L2)).mono ?_
    rintro e w3 ⟨rfl, Ls3, ht3, hq3, hd3⟩
    have F3 := hide ((unhide F2).turned hd3 (unhide NBL))
    have L3 := hide ht3
    have R3 := hide ((unhide R2).turned hd3 (fun k hk h => unhide NLR k h k hk rfl))
    have T3 := hide ((unhide T2).trans (hd3.more (fun k hk => by simp [hk])))
    clear ht3 hd3
    go_wp2_with fail
    go_ret
    refine ⟨rfl, b :: (Ls3 ++ Rs), ?_, (fun h => nomatch h), unhide T3⟩
    rw [unhide HE]
    exact ⟨bl, br, Ls3, Rs, rfl, unhide F3, unhide L3, unhide R3⟩
   ·have hRt : R = decide (n ∈ t.panes) := by rw [hR]; simp [Tr.panes, hm]
    have hSe : S = t.sid n rw W (H - s) / 2 := by rw [hS, Tr.sid, if_neg hm]; rfl
    obtain ⟨S1, hS1⟩ : ∃ S1, S1 = l.sid n rw W s / 2 := ⟨_, rfl⟩
    have V1 := hide (fun w0 h0 => unhide U1 false S1 (decide_eq_false hm).symm hS1 w0 h0)
    rw [spl_id l n rw S1 f hm] at V1
    have V2 := hide (fun w0 h0 => unhide U2 R S hRt hSe w0 h0)
    have HE : Hid ((Tr.split true s l t).spl n rw S f = .split true s l (t.spl n rw S f)) := by show _ = _; rw [Tr.spl, spl_id l n rw S f hm]
    clear ihl ihr hS hR U1 U2 hm hSe hf hfl hfr hpn nl nr hRt hS1
    go_enter Tryd.func48, Tryd.ntmps48
    go_wp2_with fail
    refine wp_region_held_drew (S := fun w' => w'.cell? ⟨b, 1, none⟩ = some (.int .i64 s) ∧ w'.cell? ⟨b, 2, none⟩ = some (.bool true)) (by kernel_rfl) ⟨c1, c2⟩ (fun hHeld => ?_)
    refine wtv 0 (oi := oSplS0) ?_
    refine wtv 1 (oi := oSplS1) ?_
    refine wtv 2 (oi := oSplS2) ?_
    refine wtv 3 (oi := oSplS3) ?_
    refine wtv 4 (oi := oSplS4) ?_
    refine wtv 5 (oi := oSplS5) ?_
    refine wtv 6 (oi := oSplS6) ?_
    refine wtv 7 (oi := oSplS7) ?_
    refine wtv 8 (oi := oSplS8) ?_
    refine wtv 9 (oi := oSplS9) ?_
    refine wtv 10 (oi := oSplS10) ?_
    refine wpAnyH_ready (rs := [11]) (by kernel_rfl) (by simp) ?_
    refine AllReadyH.cons (o := oSplS11) rfl (fun K hK => ?_) AllReadyH.nil
    go_simp
    refine (unhide TP _).mono ?_
    rintro e w2 ⟨rfl, hb2⟩
    have F2 := hide ((unhide HBF).drew.below hb2)
    have L2 := hide ((unhide HTL).drew.below hb2)
    have R2 := hide ((unhide HTR).drew.below hb2)
    have T2 := hide (Turned.of_below (below_undrew (show Below w.heap.size w.drew w2 from hb2)) (b :: (Ls ++ Rs)))
    clear hb2
    go_wp2_with fail
    refine hK.out _ _ ?_ (fun hHeld11 => ?_)
    ·exact ⟨(unhide F2).S 1, (unhide F2).S 2⟩
    clear hK K
    try simp only [Act.put, qqA, qqB, qqC]
    refine wtv 12 (oi := oSplS12) ?_
    refine wtv 13 (oi := oSplS13) ?_
    refine wtv 14 (oi := oSplS14) ?_
    refine wtv 15 (oi := oSplS15) ?_
    refine wtv 16 (oi := oSplS16) ?_
    refine wtv 17 (oi := oSplS17) ?_
    refine wtv 18 (oi := oSplS18) ?_
    refine wtv 19 (oi := oSplS19) ?_
    refine wtv 20 (oi := oSplS20) ?_
    refine wpAnyH_done (by kernel_rfl) ?_ _
    have d4 : w2.cell? ⟨b, 4, none⟩ = some (.pointer (some ⟨bl, 0, none⟩)) := (unhide F2).S 4
    go_wp2_with fail
    refine (unhide V1 _ (unhide L2)).mono ?_
    rintro e w3 ⟨rfl, Ls3, ht3, hq3, hd3⟩
    have F3 := hide ((unhide F2).turned hd3 (unhide NBL))
    have L3 := hide ht3
    have R3 := hide ((unhide R2).turned hd3 (fun k hk h => unhide NLR k h k hk rfl))
    have T3 := hide ((unhide T2).trans (hd3.more (fun k hk => by simp [hk])))
    have d5 : w3.cell? ⟨b, 5, none⟩ = some (.pointer (some ⟨br, 0, none⟩)) := (unhide F3).S 5
    have E3 := hide (hq3 (by trivial))
    clear ht3 hd3 hq3
    go_wp2_with fail
    refine (unhide V2 _ (unhide R3)).mono ?_
    rintro e w4 ⟨rfl, Rs4, ht4, hq4, hd4⟩
    have F4 := hide ((unhide F3).turned hd4 (unhide NBR))
    have L4 := hide ((unhide L3).turned hd4 (fun k hk h => unhide NLR k (unhide E3 ▸ hk) k h rfl))
    have T4 := hide ((unhide T3).trans (hd4.more (fun k hk => by simp [hk])))
    have Q4 := hide hq4
    have R4 := hide ht4
    clear ht4 hd4 hq4
    go_wp2_with fail
    go_ret
    refine ⟨rfl, b :: (Ls3 ++ Rs4), ?_, (fun h => by rw [unhide E3, unhide Q4 h]), unhide T4⟩
    rw [unhide HE]
    exact ⟨bl, br, Ls3, Rs4, rfl, unhide F4, unhide L4, unhide R4⟩
end Go.Proofs.YtgnecacoehedkaaDoor
