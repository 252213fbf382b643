/- Texts put together: Leaf3 MvS. -/
import Derived.Test.YtgnecacoehedkaaDoorZG23
/- A node of the specification's trees: this pane, another one, a split. -/
namespace Go.Proofs.YtgnecacoehedkaaDoor
open Go.ChangeShapes Go.WideShapes Go.ChangeAt Go.RowKit
theorem leaf3 {w : World} {t : Tr} {b : Nat} {bs : List Nat} (n : Int) (h : TreeAt sBx w t b bs) : (t.is n = true ∧ w.cell? ⟨b, 3, none⟩ = some (.bool true) ∧ w.cell? ⟨b, 0, none⟩ = some (.int .i64 n)) ∨ (t.is n = false ∧ ∃ m, (¬ m = n ∧ (m == n) = false) ∧ w.cell? ⟨b, 3, none⟩ = some (.bool true) ∧ w.cell? ⟨b, 0, none⟩ = some (.int .i64 m)) ∨ (t.is n = false ∧ w.cell? ⟨b, 3, none⟩ = some (.bool false)) := by
 cases t using Tr.ind with
 | pane m =>
  obtain ⟨_, hb⟩ := h
  by_cases e : m = n
  ·subst e; left; exact ⟨by simp [Tr.is], hb.S 3, hb.S 0⟩
  ·right; left; exact ⟨by simpa [Tr.is] using e, m, ⟨e, by simpa using e⟩, hb.S 3, hb.S 0⟩
 | split r s l t _ _ =>
  obtain ⟨bl, br, Ls, Rs, _, hb, _⟩ := h
  right; right; exact ⟨rfl, hb.S 3⟩
end Go.Proofs.YtgnecacoehedkaaDoor

/- l05Move: what the specification answers. -/
namespace Go.Proofs.YtgnecacoehedkaaDoor
open Go.ChangeShapes Go.WideShapes Go.ChangeAt Go.RowKit
theorem mv_id : ∀ (t : Tr) (n d : Int), n ∉ t.panes → t.mv n d = t := by
 intro t
 induction t using Tr.ind with
 | pane m => intro n d _; rfl
 | split r s l t ihl ihr =>
  intro n d h
  simp only [Tr.panes, List.mem_append, not_or] at h
  have h1 : ¬ l.is n = true := fun e => h.1 (is_mem e)
  have h2 : ¬ t.is n = true := fun e => h.2 (is_mem e)
  rw [Tr.mv, if_neg (by simp [h1, h2]), if_neg h.1, ihr n d h.2]
def mvB (t : Tr) (n : Int) : Bool := decide (n ∈ t.panes) && !t.is n
set_option maxHeartbeats 2000000 in
set_option maxRecDepth 100000 in
theorem smove (n d : Int) (hd : -100 ≤ d ∧ d ≤ 100) : ∀ (t : Tr) (b : Nat) (bs : List Nat) (R : Bool) (w : World), R = mvB t n → TreeAt sBx w t b bs → bs.Nodup → t.szok →
  Calls Tryd.prog 58 #[.pointer (some ⟨b, 0, none⟩), .int .i64 n, .int .i64 d] w fun e w' => e = .returned (.bool R) ∧ TreeAt sBx w' (t.mv n d) b bs ∧ Turned w w' bs := by
 obtain ⟨hd1, hd2⟩ := hd
 intro t
 induction t using Tr.ind with
 | pane m =>
  intro b bs R w hR ht hnd hsz
  have HT := hide ht
  obtain ⟨rfl, hbf⟩ := ht
  have c3 : w.cell? ⟨b, 3, none⟩ = some (.bool true) := hbf.S 3
  have hRf : R = false := by
   rw [hR]; unfold mvB
   by_cases h : n ∈ (Tr.pane m).panes
   ·rw [pane_is h]; simp
   ·simp [h]
  clear hbf hR
  subst hRf
  go_enter Tryd.func58, Tryd.ntmps58
  go_wp2_with fail
  go_ret
  exact ⟨rfl, unhide HT, Turned.refl _ _⟩
 | split r s l t ihl ihr =>
  intro b bs R w hR ht hnd hsz
  obtain ⟨bl, br, Ls, Rs, rfl, hbf, htl, htr⟩ := ht
  have HND := hide hnd
  rw [List.nodup_cons, List.mem_append, List.nodup_append] at hnd
  obtain ⟨nb, nl, nr, nlr⟩ := hnd
  have NBL : Hid (b ∉ Ls) := fun h => nb (.inl h)
  have NBR : Hid (b ∉ Rs) := fun h => nb (.inr h)
  have NLR : Hid (∀ k ∈ Ls, ∀ c ∈ Rs, k = c → False) := fun k hk c hc e => nlr k hk c hc e
  obtain ⟨⟨hs0, hs1⟩, hs2, hs3⟩ := hsz
  have HBF := hide hbf
  have HTL := hide htl
  have HTR := hide htr
  have c1 : w.cell? ⟨b, 1, none⟩ = some (.int .i64 s) := hbf.S 1
  have c1f := hbf.F 1
  have c3 : w.cell? ⟨b, 3, none⟩ = some (.bool false) := hbf.S 3
  have c4 : w.cell? ⟨b, 4, none⟩ = some (.pointer (some ⟨bl, 0, none⟩)) := hbf.S 4
  have c5 : w.cell? ⟨b, 5, none⟩ = some (.pointer (some ⟨br, 0, none⟩)) := hbf.S 5
  have hRe : R = (decide (n ∈ l.panes) || decide (n ∈ t.panes)) := by rw [hR]; unfold mvB; simp [Tr.panes, Tr.is]
  have U1 := hide (fun R0 (h0 : R0 = mvB l n) => ihl bl Ls R0 w h0 htl nl hs2)
  have U2 := hide (fun R0 (h0 : R0 = mvB t n) w0 (h1 : TreeAt sBx w0 t br Rs) => ihr br Rs R0 w0 h0 h1 nr hs3)
  have LL := leaf3 n htl
  have LR := leaf3 n htr
  have here : l.is n = true ∨ t.is n = true → R = true ∧ ∀ w', Turned w w' [b] → BF b (sBx.node r (s + d) bl br) w' → TreeAt sBx w' ((Tr.split r s l t).mv n d) b (b :: (Ls ++ Rs)) := fun hi => by
   refine ⟨by rw [hRe]; rcases hi with h | h <;> simp [is_mem h], ?_⟩
   intro w' ht hb
   rw [Tr.mv, if_pos (by rcases hi with h | h <;> simp [h])]
   exact ⟨bl, br, Ls, Rs, rfl, hb, htl.turned ht (fun k hk h => by simp at h; exact nb (.inl (h ▸ hk))), htr.turned ht (fun k hk h => by simp at h; exact nb (.inr (h ▸ hk)))⟩
  have G1 := hide (hbf.set 1 (by simp [sBx]) (.int .i64 (s + d)))
  have F1 : Hid (BF b (sBx.node r (s + d) bl br) (w.setCell ⟨b, 1, none⟩ (.int .i64 (s + d)))) := by show BF _ _ _; have := unhide G1; simp only [sBx] at this ⊢; simpa using this
  have TS : Hid (Turned w (w.setCell ⟨b, 1, none⟩ (.int .i64 (s + d))) [b]) := Turned.set (by simp)
  have ew : IntKind.i64.wrap (s + d) = s + d := wrapi _ (by omega) (by omega)
  have other : l.is n = false → t.is n = false → R = (mvB l n || mvB t n) ∧ (n ∈ l.panes → (Tr.split r s l t).mv n d = .split r s (l.mv n d) t) ∧ (n ∉ l.panes → (Tr.split r s l t).mv n d = .split r s (l.mv n d) (t.mv n d)) ∧ mvB l n = decide (n ∈ l.panes) := fun h1 h2 => by
   refine ⟨by rw [hRe]; unfold mvB; simp [h1, h2], fun hm => by rw [Tr.mv, if_neg (by simp [h1, h2]), if_pos hm], fun hm => by rw [Tr.mv, if_neg (by simp [h1, h2]), if_neg hm, mv_id l n d hm], by unfold mvB; simp [h1]⟩
  have HH := hide here
  have HO := hide other
  clear hbf htl htr ihl ihr nb nl nr nlr hs2 hs3 hRe hR G1 here other
  rcases LL with ⟨l1, l2, l3⟩ | LL
  ·obtain ⟨hRt, hw⟩ := unhide HH (.inl l1)
   have HW := hide (hw _ (unhide TS) (unhide F1))
   clear hw LR HO U1 U2
   subst hRt
   go_enter Tryd.func58, Tryd.ntmps58
   go_wp2_with fail
   go_ret
   exact ⟨rfl, unhide HW, (unhide TS).more (fun k hk => by simp at hk; simp [hk])⟩
  ·rcases LR with ⟨r1, r2, r3⟩ | LR
   ·obtain ⟨hRt, hw⟩ := unhide HH (.inr r1)
    have HW := hide (hw _ (unhide TS) (unhide F1))
    clear hw HO U1 U2
    subst hRt
    rcases LL with ⟨l1, m, ⟨lm, lmb⟩, l2, l3⟩ | ⟨l1, l2⟩
    all_goals
     go_enter Tryd.func58, Tryd.ntmps58
     go_wp2_with fail
     go_ret
     exact ⟨rfl, unhide HW, (unhide TS).more (fun k hk => by simp at hk; simp [hk])⟩
   ·have hl1 : l.is n = false := by rcases LL with h | h <;> exact h.1
    have hr1 : t.is n = false := by rcases LR with h | h <;> exact h.1
    obtain ⟨o1, o2, o3, o4⟩ := unhide HO hl1 hr1
    have HO2 := hide o2
    have HO3 := hide o3
    clear HH HO o2 o3 TS F1 ew
    by_cases hm : n ∈ l.panes
    ·have e1 : mvB l n = true := by rw [o4]; exact decide_eq_true hm
     have hRt : R = true := by rw [o1, e1]; rfl
     have V1 := hide (unhide U1 true e1.symm)
     have HE := hide (unhide HO2 hm)
     clear HO2 HO3 U1 U2 o1 o4 e1 hm hl1 hr1
     subst hRt
     rcases LL with ⟨l1, m, ⟨lm, lmb⟩, l2, l3⟩ | ⟨l1, l2⟩ <;> rcases LR with ⟨r1, m2, ⟨rm, rmb⟩, r2, r3⟩ | ⟨r1, r2⟩
     all_goals
      go_enter Tryd.func58, Tryd.ntmps58
      go_wp2_with fail
      refine (unhide V1).mono ?_
      rintro e w2 ⟨rfl, ht2, hd2'⟩
      have F2 := hide ((unhide HBF).turned hd2' (unhide NBL))
      have R2 := hide ((unhide HTR).turned hd2' (fun k hk h => unhide NLR k h k hk rfl))
      have L2 := hide ht2
      have T2 := hide hd2'
      clear ht2 hd2'
      go_wp2_with fail
      go_ret
      refine ⟨rfl, ?_, (unhide T2).more (fun k hk => by simp [hk])⟩
      rw [unhide HE]
      exact ⟨bl, br, Ls, Rs, rfl, unhide F2, unhide L2, unhide R2⟩
    ·have e1 : mvB l n = false := by rw [o4]; exact decide_eq_false hm
     have hRt : R = mvB t n := by rw [o1, e1]; rfl
     have V1 := hide (unhide U1 false e1.symm)
     have V2 := hide (fun w0 h0 => unhide U2 R hRt w0 h0)
     have HE := hide (unhide HO3 hm)
     clear HO2 HO3 U1 U2 o1 o4 e1 hm hl1 hr1 hRt
     rcases LL with ⟨l1, m, ⟨lm, lmb⟩, l2, l3⟩ | ⟨l1, l2⟩ <;> rcases LR with ⟨r1, m2, ⟨rm, rmb⟩, r2, r3⟩ | ⟨r1, r2⟩
     all_goals
      go_enter Tryd.func58, Tryd.ntmps58
      go_wp2_with fail
      refine (unhide V1).mono ?_
      rintro e w2 ⟨rfl, ht2, hd2'⟩
      have F2 := hide ((unhide HBF).turned hd2' (unhide NBL))
      have R2 := hide ((unhide HTR).turned hd2' (fun k hk h => unhide NLR k h k hk rfl))
      have L2 := hide ht2
      have T2 := hide (hd2'.more (fun k hk => show k ∈ b :: (Ls ++ Rs) by simp [hk]))
      have d5 : w2.cell? ⟨b, 5, none⟩ = some (.pointer (some ⟨br, 0, none⟩)) := (unhide F2).S 5
      clear ht2 hd2'
      go_wp2_with fail
      refine (unhide V2 w2 (unhide R2)).mono ?_
      rintro e w3 ⟨rfl, ht3, hd3⟩
      have F3 := hide ((unhide F2).turned hd3 (unhide NBR))
      have L3 := hide ((unhide L2).turned hd3 (fun k hk h => unhide NLR k hk k h rfl))
      have R3 := hide ht3
      have T3 := hide ((unhide T2).trans (hd3.more (fun k hk => show k ∈ b :: (Ls ++ Rs) by simp [hk])))
      clear ht3 hd3
      go_wp2_with fail
      go_ret
      refine ⟨rfl, ?_, unhide T3⟩
      rw [unhide HE]
      exact ⟨bl, br, Ls, Rs, rfl, unhide F3, unhide L3, unhide R3⟩
end Go.Proofs.YtgnecacoehedkaaDoor
