/- Copies of mirrors: what the specification answers. -/
import Derived.Test.YtfibbhggphmebaaZAvM
import Derived.Test.YtfibbhggphmebaaZClnS
import Derived.Test.YtfibbhggphmebaaZBf
import Derived.Deep.Cut
namespace Go.Proofs.Ytfibbhggphmebaa
open Go.ChangeShapes Go.WideShapes Go.ChangeAt Go.RowKit
set_option linter.unusedVariables false
set_option maxHeartbeats 4000000 in
set_option maxRecDepth 100000 in
theorem smown (nb vw vh : Int) (a : Option Addr) (cap n : Nat) (R : List ByteArray) (HN : Hid (R.length = n)) (hn : n ≤ 1048576) (w : World) (hr : RowV w a (cS R)) :
    Calls Try.prog 20 #[.agg #[.int .i64 nb, .int .i64 vw, .int .i64 vh, .slice a n cap]] w fun e w' => ∃ v, e = .returned (.agg #[.int .i64 nb, .int .i64 vw, .int .i64 vh, v]) ∧ w'.ownsRow w.heap.size 9 1 v n (cS R) ∧ Below w.heap.size w w' := by
  have B0 := hide (Go.Joins.below_alloc2 w (.cells #[.int .i64 nb, .int .i64 vw, .int .i64 vh, .slice a n cap] 30) (.cells #[.int .i64 0, .int .i64 0, .int .i64 0, .slice none 0 0] 30))
  have A0 := hide ((BF.new w #[.int .i64 nb, .int .i64 vw, .int .i64 vh, .slice a n cap] 30).alloc (.cells #[.int .i64 0, .int .i64 0, .int .i64 0, .slice none 0 0] 30))
  have Z0 := hide (BF.new (w.alloc (.cells #[.int .i64 nb, .int .i64 vw, .int .i64 vh, .slice a n cap] 30)) #[.int .i64 0, .int .i64 0, .int .i64 0, .slice none 0 0] 30)
  rw [show (w.alloc (.cells #[.int .i64 nb, .int .i64 vw, .int .i64 vh, .slice a n cap] 30)).heap.size = w.heap.size + 1 from by simp] at Z0
  obtain ⟨i0, hi, hz0, hz1, hz2⟩ := info_parts Try.infL9
  have hown := lit_atT ((w.alloc (.cells #[.int .i64 nb, .int .i64 vw, .int .i64 vh, .slice a n cap] 30)).alloc (.cells #[.int .i64 0, .int .i64 0, .int .i64 0, .slice none 0 0] 30)) (w.heap.size + 1 + 1) (w.heap.size + 1 + 1) 9 (by simp) (Nat.le_refl _)
  have HBL := hide ((unhide B0).alloc (unhide B0).size (.cells #[] 9))
  have AL := hide ((unhide A0).alloc (.cells #[] 9))
  have ZL := hide ((unhide Z0).alloc (.cells #[] 9))
  have HR := hide hr
  clear hr B0 A0 Z0
  go_enter Try.func20, Try.ntmps20
  go_wp2_with (at_builtin; refine append_strsN _ rfl (.tmp 3) (.tmp 5) 22 rfl (w.heap.size + 1 + 1) 9 i0 Try.underlying22 hi hz0 hz1 hz2 _ rfl hown a cap n R (unhide HN) rfl ((unhide HR).below (unhide HBL)) hn (by simp) ?_; intro v2 w2 ho2 hg2; obtain ⟨a2, c2, rfl, -⟩ := own_rowV ho2; have HO2 := hide ho2; have B2 := hide ((unhide HBL).grown hg2 (unhide HBL).size (fun k hk => by have := (hown.lt k hk).1; omega)); have A2 := hide ((unhide AL).grown hg2 (fun h => by have := (hown.lt _ h).1; omega)); have Z2 := hide ((unhide ZL).grown hg2 (fun h => by have := (hown.lt _ h).1; omega)); have ka := (unhide A2).S; have kaf := (unhide A2).F; have kz := (unhide Z2).S; have kf := (unhide Z2).F; clear ho2 hg2 hown)
  refine bodyPost_ret (v := .agg #[.int .i64 nb, .int .i64 vw, .int .i64 vh, .slice a2 n c2]) (by simp [results, Try.results20, go_sem, kz]) rfl ⟨_, rfl, ?_, ?_⟩
  · refine Go.Joins.ownsRow_le (base := w.heap.size + 1 + 1) ?_ (by omega)
    have hl1 : w.heap.size + 1 < w.heap.size + 1 + 1 := by omega
    have hl2 : w.heap.size < w.heap.size + 1 + 1 := by omega
    repeat refine ownsRow_setCell_below ?_ (by first | exact hl1 | exact hl2) _
    exact unhide HO2
  · repeat refine Below.setCell ?_ (by first | exact Nat.le_succ _ | exact Nat.le_refl _) _
    exact unhide B2
end Go.Proofs.Ytfibbhggphmebaa
