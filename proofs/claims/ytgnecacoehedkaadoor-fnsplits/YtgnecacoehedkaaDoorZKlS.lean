/- l05Kill: what the specification answers. -/
import Derived.Test.YtgnecacoehedkaaDoorZG27
namespace Go.Proofs.YtgnecacoehedkaaDoor
open Go.ChangeShapes Go.WideShapes Go.ChangeAt Go.RowKit
set_option maxHeartbeats 2000000 in
set_option maxRecDepth 100000 in
theorem skill (n : Int) : ∀ (t : Tr) (b : Nat) (bs : List Nat) (w : World), TreeAt sBx w t b bs → bs.Nodup → t.panes.Nodup →
  Calls Tryd.prog 56 #[.pointer (some ⟨b, 0, none⟩), .int .i64 n] w fun e w' => ∃ b2 bs2, e = .returned (.pointer (some ⟨b2, 0, none⟩)) ∧ TreeAt sBx w' (t.kl n) b2 bs2 ∧ (∀ k ∈ bs2, k ∈ bs) ∧ bs2.Nodup ∧ Turned w w' bs := by
 intro t
 induction t using Tr.ind with
 | pane m =>
  intro b bs w ht hnd _
  have HT := hide ht
  have HND := hide hnd
  obtain ⟨rfl, hbf⟩ := ht
  have c3 : w.cell? ⟨b, 3, none⟩ = some (.bool true) := hbf.S 3
  clear hbf hnd
  go_enter Tryd.func56, Tryd.ntmps56
  go_wp2_with fail
  go_ret
  exact ⟨_, _, rfl, unhide HT, fun _ h => h, unhide HND, Turned.refl _ _⟩
 | split r s l t ihl ihr =>
  intro b bs w ht hnd hpn
  obtain ⟨bl, br, Ls, Rs, rfl, hbf, htl, htr⟩ := ht
  have HND := hide hnd
  rw [List.nodup_cons, List.mem_append, List.nodup_append] at hnd
  obtain ⟨nb, nl, nr, nlr⟩ := hnd
  simp only [Tr.panes] at hpn
  rw [List.nodup_append] at hpn
  have NBL : Hid (b ∉ Ls) := fun h => nb (.inl h)
  have NBR : Hid (b ∉ Rs) := fun h => nb (.inr h)
  have NLR : Hid (∀ k ∈ Ls, ∀ c ∈ Rs, k = c → False) := fun k hk c hc e => nlr k hk c hc e
  have NL := hide nl
  have NR := hide nr
  have HBF := hide hbf
  have HTL := hide htl
  have HTR := hide htr
  have c3 : w.cell? ⟨b, 3, none⟩ = some (.bool false) := hbf.S 3
  have c4 : w.cell? ⟨b, 4, none⟩ = some (.pointer (some ⟨bl, 0, none⟩)) := hbf.S 4
  have c4f := hbf.F 4
  have c5 : w.cell? ⟨b, 5, none⟩ = some (.pointer (some ⟨br, 0, none⟩)) := hbf.S 5
  have c5f := hbf.F 5
  have U1 := hide (ihl bl Ls w htl nl hpn.1)
  have U2 := hide (fun w0 (h1 : TreeAt sBx w0 t br Rs) => ihr br Rs w0 h1 nr hpn.2.1)
  have LL := leaf3 n htl
  have LR := leaf3 n htr
  clear hbf htl htr ihl ihr nb nl nr nlr hpn
  rcases LL with ⟨l1, l2, l3⟩ | LL
  ·have HE : Hid ((Tr.split r s l t).kl n = t) := by show _ = _; rw [Tr.kl, if_pos l1]
   clear LR U1 U2
   go_enter Tryd.func56, Tryd.ntmps56
   go_wp2_with fail
   go_ret
   exact ⟨_, _, rfl, by rw [unhide HE]; exact unhide HTR, fun k hk => by simp [hk], unhide NR, Turned.refl _ _⟩
  ·have hl1 : ¬ l.is n = true := by rcases LL with h | h <;> simp [h.1]
   rcases LR with ⟨r1, r2, r3⟩ | LR
   ·have HE : Hid ((Tr.split r s l t).kl n = l) := by show _ = _; rw [Tr.kl, if_neg hl1, if_pos r1]
    clear U1 U2 hl1
    rcases LL with ⟨l1, m, ⟨lm, lmb⟩, l2, l3⟩ | ⟨l1, l2⟩
    all_goals
     go_enter Tryd.func56, Tryd.ntmps56
     go_wp2_with fail
     go_ret
     exact ⟨_, _, rfl, by rw [unhide HE]; exact unhide HTL, fun k hk => by simp [hk], unhide NL, Turned.refl _ _⟩
   ·have hr1 : ¬ t.is n = true := by rcases LR with h | h <;> simp [h.1]
    have HE : Hid ((Tr.split r s l t).kl n = .split r s (l.kl n) (t.kl n)) := by show _ = _; rw [Tr.kl, if_neg hl1, if_neg hr1]
    clear hl1 hr1
    rcases LL with ⟨l1, m, ⟨lm, lmb⟩, l2, l3⟩ | ⟨l1, l2⟩ <;> rcases LR with ⟨r1, m2, ⟨rm, rmb⟩, r2, r3⟩ | ⟨r1, r2⟩
    all_goals
     go_enter Tryd.func56, Tryd.ntmps56
     go_wp2_with fail
     refine (unhide U1).mono ?_
     rintro e w2 ⟨b2, Ls2, rfl, ht2, hs2, hn2, hd2⟩
     have F2 := hide ((unhide HBF).turned hd2 (unhide NBL))
     have R2 := hide ((unhide HTR).turned hd2 (fun k hk h => unhide NLR k h k hk rfl))
     have T2 := hide (hd2.more (fun k hk => show k ∈ b :: (Ls ++ Rs) by simp [hk]))
     have G3 := hide ((unhide F2).set 4 (by simp [sBx]) (.pointer (some ⟨b2, 0, none⟩)))
     have F3 : Hid (BF b (sBx.node r s b2 br) (w2.setCell ⟨b, 4, none⟩ (.pointer (some ⟨b2, 0, none⟩)))) := by show BF _ _ _; have := unhide G3; simp only [sBx] at this ⊢; simpa using this
     have TS : Hid (Turned w2 (w2.setCell ⟨b, 4, none⟩ (.pointer (some ⟨b2, 0, none⟩))) [b]) := Turned.set (by simp)
     have L3 := hide (ht2.turned (unhide TS) (fun k hk h => by simp at h; exact unhide NBL (h ▸ hs2 k hk)))
     have R3 := hide ((unhide R2).turned (unhide TS) (fun k hk h => by simp at h; exact unhide NBR (h ▸ hk)))
     have T3 := hide ((unhide T2).trans ((unhide TS).more (fun k hk => show k ∈ b :: (Ls ++ Rs) by simp at hk; simp [hk])))
     have HS2 := hide hs2
     have HN2 := hide hn2
     have e4 : w2.cell? ⟨b, 4, none⟩ = some (.pointer (some ⟨bl, 0, none⟩)) := (unhide F2).S 4
     have e4f := (unhide F2).F 4
     have e5 : (w2.setCell ⟨b, 4, none⟩ (.pointer (some ⟨b2, 0, none⟩))).cell? ⟨b, 5, none⟩ = some (.pointer (some ⟨br, 0, none⟩)) := (unhide F3).S 5
     clear ht2 hs2 hn2 hd2 G3 TS
     go_wp2_with fail
     generalize w2.setCell ⟨b, 4, none⟩ (.pointer (some ⟨b2, 0, none⟩)) = w3 at F3 L3 R3 T3 e5 ⊢
     refine (unhide U2 w3 (unhide R3)).mono ?_
     rintro e w4 ⟨b4, Rs2, rfl, ht4, hs4, hn4, hd4⟩
     have F4 := hide ((unhide F3).turned hd4 (unhide NBR))
     have L4 := hide ((unhide L3).turned hd4 (fun k hk h => unhide NLR k (unhide HS2 k hk) k h rfl))
     have T4 := hide ((unhide T3).trans (hd4.more (fun k hk => show k ∈ b :: (Ls ++ Rs) by simp [hk])))
     have G5 := hide ((unhide F4).set 5 (by simp [sBx]) (.pointer (some ⟨b4, 0, none⟩)))
     have F5 : Hid (BF b (sBx.node r s b2 b4) (w4.setCell ⟨b, 5, none⟩ (.pointer (some ⟨b4, 0, none⟩)))) := by show BF _ _ _; have := unhide G5; simp only [sBx] at this ⊢; simpa using this
     have TS : Hid (Turned w4 (w4.setCell ⟨b, 5, none⟩ (.pointer (some ⟨b4, 0, none⟩))) [b]) := Turned.set (by simp)
     have L5 := hide ((unhide L4).turned (unhide TS) (fun k hk h => by simp at h; exact unhide NBL (h ▸ unhide HS2 k hk)))
     have R5 := hide (ht4.turned (unhide TS) (fun k hk h => by simp at h; exact unhide NBR (h ▸ hs4 k hk)))
     have T5 := hide ((unhide T4).trans ((unhide TS).more (fun k hk => show k ∈ b :: (Ls ++ Rs) by simp at hk; simp [hk])))
     have HS4 := hide hs4
     have HN4 := hide hn4
     have e6 : w4.cell? ⟨b, 5, none⟩ = some (.pointer (some ⟨br, 0, none⟩)) := (unhide F4).S 5
     have e6f := (unhide F4).F 5
     clear ht4 hs4 hn4 hd4 G5 TS e5
     go_wp2_with fail
     go_ret
     refine ⟨b, b :: (Ls2 ++ Rs2), rfl, ?_, ?_, ?_, unhide T5⟩
     ·rw [unhide HE]
      exact ⟨b2, b4, Ls2, Rs2, rfl, unhide F5, unhide L5, unhide R5⟩
     ·intro k hk
      simp only [List.mem_cons, List.mem_append] at hk ⊢
      rcases hk with h | h | h
      ·exact .inl h
      ·exact .inr (.inl (unhide HS2 k h))
      ·exact .inr (.inr (unhide HS4 k h))
     ·rw [List.nodup_cons, List.mem_append, List.nodup_append]
      refine ⟨fun h => ?_, unhide HN2, unhide HN4, fun x hx y hy e => unhide NLR x (unhide HS2 x hx) y (unhide HS4 y hy) e⟩
      rcases h with h | h
      ·exact unhide NBL (unhide HS2 b h)
      ·exact unhide NBR (unhide HS4 b h)
end Go.Proofs.YtgnecacoehedkaaDoor
