/- The cells of a view's rows: what the program answers. -/
import Derived.Test.YtblhediekdeffaaDoorZVoM
import Derived.Test.YtblhediekdeffaaDoorZG13
import Derived.Test.YtblhediekdeffaaDoorZG3
import Derived.Lib.SmallJoins
namespace Go.Proofs.YtblhediekdeffaaDoor
open Go.ChangeShapes Go.WideShapes Go.ChangeAt Go.RowKit
set_option linter.unusedVariables false
set_option maxHeartbeats 4000000 in
set_option maxRecDepth 100000 in
theorem icelV (nb fr : Int) (fu : Bool) (vw vh : Int) (a : Option Addr) (cap n : Nat) (l : List Rw) (HN : Hid (l.length = n)) (hn : n ≤ 1048576) (w : World) (hr : RowV w a (cE l)) :
    Calls Tryd.prog 46 #[.agg #[.int .i64 nb, .int .i64 fr, .bool fu, .int .i64 vw, .int .i64 vh, .slice a n cap]] w fun e w' => ∃ v, e = .returned v ∧ w'.ownsRow w.heap.size 9 1 v n (cS (celL l)) ∧ Below w.heap.size w w' := by
  have HR := hide hr
  clear hr
  have B0 := hide (Go.Joins.below_alloc1 w (.cells #[.int .i64 nb, .int .i64 fr, .bool fu, .int .i64 vw, .int .i64 vh, .slice a n cap] 25))
  go_enter Tryd.func46, Tryd.ntmps46
  go_wp2_with fail
  obtain ⟨i0, hi, hz0, hz1, hz2⟩ := info_parts Tryd.infL9
  go_loopw [3, 9] (fun l0 i wr => ∃ (k : Nat) (v : Value), k ≤ n ∧ i = .int .i64 k ∧ l0 = v ∧ Hid (wr.ownsRow w.heap.size 9 1 v k (cS (celL (l.take k)))) ∧ Hid (Below w.heap.size w wr)) (fun _ i _ => n - (intOf i).toNat)
  case atStart => exact ⟨0, _, by omega, rfl, rfl, (by show World.ownsRow _ _ _ _ _ _ _; exact World.ownsRow_nil _ _ _ _), B0⟩
  case round =>
    obtain ⟨k, v, hk, rfl, rfl, HO, B1⟩ := hrel
    by_cases hlt : k < n
    · have hlk : k < l.length := by rw [unhide HN]; omega
      obtain ⟨b, off, rfl, hblt, hc⟩ := (unhide HR).at (by rw [cE_len]; omega)
      obtain ⟨x0, x1⟩ := row_ent hc k hlk
      obtain ⟨t, et⟩ : ∃ t, t = l[k].1 := ⟨_, rfl⟩
      obtain ⟨d, ed⟩ : ∃ d, d = l[k].2 := ⟨_, rfl⟩
      have HS : Hid (cS (celL (l.take (k + 1))) = cS (celL (l.take k)) ++ [.string d]) := by show _ = _; rw [celL_snoc l k hlk, cS_app, ed]; rfl
      rw [← et] at x0
      rw [← ed] at x1
      have hx0 : wr.cell? ⟨b, off + k * 2, none⟩ = some (.int .i64 t) := ((unhide B1).cell (p := ⟨b, off + k * 2, none⟩) hblt).trans x0
      have hx1 : wr.cell? ⟨b, off + k * 2 + 1, none⟩ = some (.string d) := ((unhide B1).cell (p := ⟨b, off + k * 2 + 1, none⟩) hblt).trans x1
      have hlt' : (k : Int) < (n : Int) := by omega
      have hlt0 : (0 : Int) ≤ (k : Int) := by omega
      have hk6 : k ≤ 1048576 := by omega
      have hown := (unhide HO).alloc (.cells #[.int .i64 t, .string d] 51)
      have HB2 := hide ((unhide B1).alloc (unhide B1).size (.cells #[.int .i64 t, .string d] 51))
      have hbs := (unhide B1).size
      clear hc x0 x1 et ed hlk
      go_wp2_with (at_builtin; refine wpList_append_lies _ rfl (.tmp 13) (.tmp 16) 36 rfl w.heap.size 9 i0 (.string ⟨#[]⟩) 1 16 Tryd.underlying36 hi hz0 hz1 hz2 rfl (by decide) _ _ _ rfl (hown.alloc (.cells #[.string d] 9)) ⟨wr.heap.size + 1, 0, none⟩ 1 1 [.string d] rfl rfl (by have := news_new (wr.alloc (.cells #[.int .i64 t, .string d] 51)) [.string d] 9; rw [World.size_alloc] at this; exact this) (by intro u hu; simp at hu; subst hu; rfl) (by decide) (by unfold maxLen; omega) (by omega) (by simp; omega) _ rfl ?_; intro g7 c7 w7 hown7 hgrow7 hat7 hlt7; have HO7 := hide hown7; have HB7 := hide (((unhide HB2).alloc (unhide HB2).size (.cells #[.string d] 9)).grown hgrow7 (by simp; omega) (fun j hj => by have := (hown.lt j hj).1; omega)); clear hown7 hgrow7 hat7 hlt7)
      go_roundw
      case rel => exact ⟨k + 1, _, by omega, by go_num, rfl, by show World.ownsRow _ _ _ _ _ _ _; rw [unhide HS]; exact unhide HO7, HB7⟩
      case measure => simp [intOf]; omega
    · obtain rfl : k = n := by omega
      obtain ⟨aF, cF, rfl, -⟩ := own_rowV (unhide HO)
      have hof := unhide HO
      rw [List.take_of_length_le (by have := unhide HN; omega)] at hof
      have HOF := hide hof
      clear hof
      go_wp2_with fail
      go_ret
      exact ⟨_, rfl, unhide HOF, unhide B1⟩
end Go.Proofs.YtblhediekdeffaaDoor
