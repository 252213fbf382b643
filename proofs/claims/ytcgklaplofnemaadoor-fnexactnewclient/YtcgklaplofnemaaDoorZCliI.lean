/- NewClient: what the program answers. -/
import Derived.Test.YtcgklaplofnemaaDoorZG23
import Derived.Test.YtcgklaplofnemaaDoorZIssI
namespace Go.Proofs.YtcgklaplofnemaaDoor
open Go.ChangeShapes Go.WideShapes Go.ChangeAt Go.RowKit
set_option linter.unusedVariables false
set_option maxHeartbeats 2000000 in
set_option maxRecDepth 100000 in
theorem inewcl (key : ByteArray) (id : Int) (win : ByteArray) (HKS : Hid (key.size ≤ 1048576)) (HWS : Hid (win.size ≤ 1048576)) (id2 : Int) (win2 S : ByteArray) (nb2 q : Int) (HI : Hid (NcIs key id win id2 win2 S nb2 q)) (w : World) (hp : PowIn w) (hk : KIn w) :
    Calls Tryd.prog 5 #[.string key, .int .i64 id, .string win] w fun e w' => ∃ v, e = .returned (.tuple #[.agg #[.int .i64 id2, .string win2, .string S, .int .i64 nb2, .int .i64 0, .int .i64 0, v], .int .i64 q]) ∧ w'.ownsRow w.heap.size 9 1 v 0 [] ∧ Below w.heap.size w w' := by
  have B0 := hide (Go.Joins.below_alloc1 w (.cells #[.int .i64 0, .string ⟨#[]⟩, .string ⟨#[]⟩, .int .i64 0, .int .i64 0, .int .i64 0, .slice none 0 0] 26))
  have Z0 := hide (BF.new w #[.int .i64 0, .string ⟨#[]⟩, .string ⟨#[]⟩, .int .i64 0, .int .i64 0, .int .i64 0, .slice none 0 0] 26)
  have HP := hide (hp.below (unhide B0) hp.pos)
  have HK := hide (hk.below (unhide B0) hk.pos)
  have HS : Hid (S = itkS key id win (-1)) := (unhide HI).1
  have HQ : Hid (q = tmC key id win (-1)) := (unhide HI).2.1
  have h1 := (unhide HI).2.2.1
  have h2 := (unhide HI).2.2.2
  clear HI hp hk
  by_cases hq : q = 0
  · subst hq
    obtain ⟨rfl, rfl, rfl⟩ := h1 rfl
    clear h1 h2
    go_enter Tryd.func5, Tryd.ntmps5
    go_wp2_with (go_at_call 11; refine (iitk _ _ (-1) key HKS HWS S HS 0 HQ _ (unhide HP) (unhide HK)).mono ?_; rintro e w2 ⟨rfl, hb2⟩; have B2 := hide ((unhide B0).trans (hb2.mono (unhide B0).size)); have Z2 := hide ((unhide Z0).below hb2); have kz := (unhide Z2).S; have kf := (unhide Z2).F; clear hb2)
    refine bodyPost_ret (v := .tuple #[.agg #[.int .i64 id2, .string win2, .string S, .int .i64 (-1), .int .i64 0, .int .i64 0, .slice none 0 0], .int .i64 0]) (by simp [results, Tryd.results5, go_sem, kz]) rfl ?_
    exact ⟨_, rfl, World.ownsRow_nil _ _ _ _, by (repeat refine Below.setCell ?_ (by exact Nat.le_refl _) _); exact unhide B2⟩
  · obtain ⟨rfl, rfl, rfl⟩ := h2 hq
    obtain rfl : S = ⟨#[]⟩ := by rw [unhide HS]; exact itk_no (by rw [← unhide HQ]; exact hq)
    have hq' : (q != 0) = true := by simp [hq]
    clear h1 h2 hq
    go_enter Tryd.func5, Tryd.ntmps5
    go_wp2_with (go_at_call 11; refine (iitk _ _ (-1) key HKS HWS ⟨#[]⟩ HS q HQ _ (unhide HP) (unhide HK)).mono ?_; rintro e w2 ⟨rfl, hb2⟩; have B2 := hide ((unhide B0).trans (hb2.mono (unhide B0).size)); have Z2 := hide ((unhide Z0).below hb2); have kz := (unhide Z2).S; have kf := (unhide Z2).F; clear hb2)
    refine bodyPost_ret (v := .tuple #[.agg #[.int .i64 0, .string ⟨#[]⟩, .string ⟨#[]⟩, .int .i64 0, .int .i64 0, .int .i64 0, .slice none 0 0], .int .i64 q]) (by simp [results, Tryd.results5, go_sem, kz]) rfl ?_
    exact ⟨_, rfl, World.ownsRow_nil _ _ _ _, by (repeat refine Below.setCell ?_ (by exact Nat.le_refl _) _); exact unhide B2⟩
end Go.Proofs.YtcgklaplofnemaaDoor
