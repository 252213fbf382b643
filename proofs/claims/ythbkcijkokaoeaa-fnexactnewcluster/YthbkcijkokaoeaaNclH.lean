/- New clusters marked and held. -/
import Derived.Test.YthbkcijkokaoeaaNclI
import Derived.Test.YthbkcijkokaoeaaMknH
import Derived.Test.YthbkcijkokaoeaaMksI
import Derived.Test.YthbkcijkokaoeaaCluL
namespace Go.Proofs.Ythbkcijkokaoeaa
open Go.ChangeShapes Go.WideShapes Go.ChangeAt Go.RowKit
set_option linter.unusedVariables false
theorem CluR.parts' {w : World} {nv sv wv dv : Value} {c : Clu} (h : CluR w nv sv wv dv c) : ∃ an kn sa ks aw kw ad kd, nv = .slice an c.nds.length kn ∧ sv = .slice sa c.sts.length ks ∧ wv = .slice aw c.wire.length kw ∧ dv = .slice ad c.done.length kd := by
  obtain ⟨⟨⟨an, kn, e1, -⟩, -⟩, ⟨⟨sa, ks, e2, -⟩, -⟩, ⟨⟨aw, kw, e3, -⟩, -⟩, ⟨ad, kd, e4, -⟩⟩ := h
  exact ⟨an, kn, sa, ks, aw, kw, ad, kd, e1, e2, e3, e4⟩
theorem clu_nc {w : World} {lo m n kn ks : Nat} {na sa : Option Addr} {K : List NdA} (hs : HeldZ 2 w lo m 53 (.slice sa n ks) n ((List.replicate n zSt').flatMap cSt)) (hf : FOwn w m (ndF (.slice na n kn) n K)) (HK : K.map (·.n) = newL n n) : CluR w (.slice na n kn) (.slice sa n ks) (.slice none 0 0) (.slice none 0 0) ⟨K, List.replicate n zSt', [], []⟩ := by
  have hKl : K.length = n := by have e := congrArg List.length HK; rw [newL_len] at e; simpa using e
  refine ⟨?_, ?_, ?_, ?_⟩
  · refine RRow.of_own (lo := m) (t := 38) (z := 13) ?_ (FOwn.right (F := [_]) hf)
    rw [hKl]; exact hf.head
  · refine RRow.of_own (rows := norows) (lo := lo) (lo2 := lo) (t := 53) (z := 2) ?_ (by rw [norows_nil]; exact FOwn.nil _ _)
    rw [List.length_replicate]; exact hs.own
  · exact ⟨⟨_, _, rfl, .inl rfl⟩, fun p hp => by cases hp⟩
  · exact ⟨_, _, rfl, .inl rfl⟩
theorem new_mem {n : Nat} {K : List NdA} (HK : K.map (·.n) = newL n n) : ∀ p ∈ K, ∃ k, p.n = newF n k := by
  intro p hp
  have h : p.n ∈ newL n n := by rw [← HK]; exact List.mem_map.2 ⟨p, hp, rfl⟩
  obtain ⟨k, -, e⟩ := List.mem_map.1 h
  exact ⟨k, e.symm⟩
theorem new_fits {n : Nat} {K : List NdA} (h5 : n ≤ 5) (HK : K.map (·.n) = newL n n) : Clu.fits 1048576 ⟨K, List.replicate n zSt', [], []⟩ := by
  have hKl : K.length = n := by have e := congrArg List.length HK; rw [newL_len] at e; simpa using e
  refine ⟨⟨by show K.length ≤ _; omega, by show (List.replicate n zSt').length ≤ _; rw [List.length_replicate]; omega, by simp, by simp⟩, fun p hp => ?_, fun p hp => ?_, (by intro p hp; cases hp), (by intro k hk; cases hk)⟩
  · obtain ⟨k, e⟩ := new_mem HK p hp
    refine fits_n (p := ⟨newF n k, none, 0, none, 0, none, 0, none, 0⟩) ?_ e.symm
    unfold NdA.fits newF
    simp
    omega
  · rw [List.eq_of_mem_replicate hp]; exact Nat.zero_le _
theorem kAtN_new {K : List NdA} (h : ∀ p ∈ K, p.n.l.length = 0 ∧ p.n.lv.length = 0 ∧ p.n.lx.length ≤ 5 ∧ p.n.lg.length ≤ 5) : ∀ k t, kAtN k K t ≤ k + t * 19 := by
  induction K with
  | nil => intro k t; cases t <;> simp [kAtN]
  | cons p K ih =>
    intro k t
    cases t with
    | zero => simp [kAtN]
    | succ t =>
      have h1 := ih (fun q hq => h q (List.mem_cons_of_mem _ hq)) (kN k p) t
      obtain ⟨e1, e2, e3, e4⟩ := h p (List.mem_cons_self ..)
      simp only [kAtN]
      have h2 : kN k p ≤ k + 19 := by unfold kN; omega
      omega
theorem new_marks {n : Nat} {K : List NdA} (h5 : n ≤ 5) (HK : K.map (·.n) = newL n n) : K.length = n ∧ kAtN 1 K n ≤ 96 := by
  have hKl : K.length = n := by have e := congrArg List.length HK; rw [newL_len] at e; simpa using e
  refine ⟨hKl, ?_⟩
  have h := kAtN_new (K := K) (fun p hp => by obtain ⟨k, e⟩ := new_mem HK p hp; rw [e]; simp [newF]; omega) 1 n
  omega
theorem Outs.widen {lo hi lo' hi' : Nat} {w w' : World} (h : Outs lo hi w w') (hl : lo' ≤ lo) (hh : hi ≤ hi') : Outs lo' hi' w w' := ⟨h.os, h.tape, h.output, h.size, fun k hk hd => h.block k hk (by omega)⟩
set_option maxHeartbeats 4000000 in
set_option maxRecDepth 100000 in
theorem mmNil (q : Int) (w : World) : Calls Try.prog 19 #[.slice none 0 0, .int .i64 q] w fun e w' => e = .returned (.int .i64 q) ∧ w' = w := by
  go_enter Try.func19, Try.ntmps19
  go_wp2_with fail
  go_loopw [1, 5] (fun kk i wr => kk = .int .i64 q ∧ i = .int .i64 0 ∧ wr = w) (fun _ _ _ => 0)
  case atStart => exact ⟨rfl, rfl, rfl⟩
  case round =>
    obtain ⟨rfl, rfl, rfl⟩ := hrel
    go_wp2_with fail
    go_ret
    exact ⟨rfl, rfl⟩
set_option maxHeartbeats 4000000 in
set_option maxRecDepth 100000 in
theorem hmNil (q : Int) (w : World) : Calls Try.prog 23 #[.slice none 0 0, .int .i64 q] w fun e w' => e = .returned (.int .i64 q) ∧ w' = w := by
  go_enter Try.func23, Try.ntmps23
  go_wp2_with fail
  go_loopw [1, 5] (fun kk i wr => kk = .int .i64 q ∧ i = .int .i64 0 ∧ wr = w) (fun _ _ _ => 0)
  case atStart => exact ⟨rfl, rfl, rfl⟩
  case round =>
    obtain ⟨rfl, rfl, rfl⟩ := hrel
    go_wp2_with fail
    go_ret
    exact ⟨rfl, rfl⟩
set_option maxHeartbeats 4000000 in
set_option maxRecDepth 100000 in
theorem msNil (q : Int) (w : World) : Calls Try.prog 20 #[.slice none 0 0, .int .i64 q] w fun e w' => e = .returned (.int .i64 q) ∧ w' = w := by
  go_enter Try.func20, Try.ntmps20
  go_wp2_with fail
  go_loopw [1, 5] (fun kk i wr => kk = .int .i64 q ∧ i = .int .i64 0 ∧ wr = w) (fun _ _ _ => 0)
  case atStart => exact ⟨rfl, rfl, rfl⟩
  case round =>
    obtain ⟨rfl, rfl, rfl⟩ := hrel
    go_wp2_with fail
    go_ret
    exact ⟨rfl, rfl⟩
set_option maxHeartbeats 4000000 in
set_option maxRecDepth 100000 in
theorem hsNil (q : Int) (w : World) : Calls Try.prog 24 #[.slice none 0 0, .int .i64 q] w fun e w' => e = .returned (.int .i64 q) ∧ w' = w := by
  go_enter Try.func24, Try.ntmps24
  go_wp2_with fail
  go_loopw [1, 5] (fun kk i wr => kk = .int .i64 q ∧ i = .int .i64 0 ∧ wr = w) (fun _ _ _ => 0)
  case atStart => exact ⟨rfl, rfl, rfl⟩
  case round =>
    obtain ⟨rfl, rfl, rfl⟩ := hrel
    go_wp2_with fail
    go_ret
    exact ⟨rfl, rfl⟩
set_option maxHeartbeats 4000000 in
set_option maxRecDepth 100000 in
theorem markNc (na sa : Option Addr) (n kn ks lo m : Nat) (h5 : n ≤ 5) (hlm : lo ≤ m) (K : List NdA) (HK : Hid (K.map (·.n) = newL n n)) (k1 : Nat) (H1 : Hid (k1 = kAtN 1 K n)) (Q : Int) (HQ : Hid (Q = ((k1 + n * 2 : Nat) : Int))) (xs : List Value) (w : World) (hs : HeldZ 2 w lo m 53 (.slice sa n ks) n xs) (hf : FOwn w m (ndF (.slice na n kn) n K)) (hi : Nat) (hlt : ∀ r ∈ ndF (.slice na n kn) n K, ∀ j, r.v.ownBlock = some j → j < hi) (hz : m ≤ hi) (hiw : hi ≤ w.heap.size) :
    Calls Try.prog 7 #[.agg #[.slice na n kn, .slice sa n ks, .slice none 0 0, .slice none 0 0], .int .i64 1] w fun e w' => e = .returned (.int .i64 Q) ∧ HeldZ 2 w' lo m 53 (.slice sa n ks) n (onesSto k1 n) ∧ FOwn w' m (ndF (.slice na n kn) n (markNs 1 K)) ∧ Outs lo hi w w' := by
  obtain ⟨hl, hb⟩ := new_marks h5 (unhide HK)
  have h1b : k1 ≤ 96 := by rw [unhide H1]; exact hb
  have h1p : 0 < k1 := by rw [unhide H1]; have := kAtN_pos 1 K n (by omega); omega
  have HL := hide hl
  have HB : Hid (kAtN 1 K n ≤ 3000000) := by show _ ≤ _; omega
  have HE : Hid ((k1 : Int) = ((kAtN 1 K n : Nat) : Int)) := by show _ = _; rw [unhide H1]
  have v0 := Go.Joins.below_alloc1 w (.cells #[.slice na n kn, .slice sa n ks, .slice none 0 0, .slice none 0 0] 27)
  have C0 := hide (BF.new w #[.slice na n kn, .slice sa n ks, .slice none 0 0, .slice none 0 0] 27)
  have S0 := hide (hs.below v0 hs.le)
  have F0 := hide (hf.below v0)
  have HLT := hide hlt
  have V0 := hide (Outs.of_below (lo := lo) (hi := hi) v0)
  clear hl hb v0 hs hf hlt
  have k0 := (unhide C0).S
  go_enter Try.func7, Try.ntmps7
  go_wp2_with fail
  refine (markNodes (.slice na n kn) n m 1 (by omega) K HL (k1 : Int) HE (hide (by decide)) HB _ (unhide F0) hi (unhide HLT)).mono ?_
  rintro e w1 ⟨rfl, hf1, ho1⟩
  have C1 := hide ((unhide C0).outs ho1 (.inr hiw))
  have S1 := hide ((unhide S0).outs ho1 (.inl (Nat.le_refl _)))
  have F1 := hide hf1
  have V1 := hide ((unhide V0).trans (ho1.widen hlm (Nat.le_refl _)))
  have z1 := ho1.size
  simp only [World.size_alloc] at z1
  clear hf1 ho1 k0 C0 S0 F0 V0
  have k1' := (unhide C1).S
  go_wp2_with fail
  refine (markSto (.slice sa n ks) n lo m k1 xs h1p (by omega) _ (unhide S1)).mono ?_
  rintro e w2 ⟨rfl, hs2, hg2⟩
  have ho2 : Outs lo m w1 w2 := Outs.of_grown hg2 (fun j hj => (unhide S1).blk j hj)
  have C2 := hide ((unhide C1).outs ho2 (.inr (Nat.le_trans hz hiw)))
  have S2 := hide hs2
  have F2 := hide ((unhide F1).outs ho2 (.inl (Nat.le_refl _)))
  have V2 := hide ((unhide V1).trans (ho2.widen (Nat.le_refl _) hz))
  rw [← unhide HQ]
  clear hs2 hg2 ho2 k1' C1 S1 F1 V1
  have k2 := (unhide C2).S
  go_wp2_with fail
  refine (mmNil Q _).mono ?_
  rintro e w3 ⟨rfl, rfl⟩
  go_wp2_with fail
  refine (msNil Q _).mono ?_
  rintro e w4 ⟨rfl, rfl⟩
  go_wp2_with fail
  go_ret
  exact ⟨rfl, unhide S2, unhide F2, unhide V2⟩
set_option maxHeartbeats 4000000 in
set_option maxRecDepth 100000 in
theorem heldNc (na sa : Option Addr) (n kn ks lo m : Nat) (h5 : n ≤ 5) (K : List NdA) (HK : Hid (K.map (·.n) = newL n n)) (k1 : Nat) (H1 : Hid (k1 = kAtN 1 K n)) (Q : Int) (HQ : Hid (Q = ((k1 + n * 2 : Nat) : Int))) (w : World) (hs : HeldZ 2 w lo m 53 (.slice sa n ks) n (onesSto k1 n)) (hf : FOwn w m (ndF (.slice na n kn) n (markNs 1 K))) :
    Calls Try.prog 8 #[.agg #[.slice na n kn, .slice sa n ks, .slice none 0 0, .slice none 0 0], .int .i64 1] w fun e w' => e = .returned (.int .i64 Q) ∧ Below w.heap.size w w' := by
  obtain ⟨hl, hb⟩ := new_marks h5 (unhide HK)
  have h1b : k1 ≤ 96 := by rw [unhide H1]; exact hb
  have h1p : 0 < k1 := by rw [unhide H1]; have := kAtN_pos 1 K n (by omega); omega
  have HL := hide hl
  have HB : Hid (kAtN 1 K n ≤ 3000000) := by show _ ≤ _; omega
  have HE : Hid ((k1 : Int) = ((kAtN 1 K n : Nat) : Int)) := by show _ = _; rw [unhide H1]
  have v0 := Go.Joins.below_alloc1 w (.cells #[.slice na n kn, .slice sa n ks, .slice none 0 0, .slice none 0 0] 27)
  have C0 := hide (BF.new w #[.slice na n kn, .slice sa n ks, .slice none 0 0, .slice none 0 0] 27)
  have S0 := hide (hs.below v0 hs.le)
  have F0 := hide (hf.below v0)
  have B0 := hide v0
  have q1 : ¬ (k1 : Int) < 0 := by omega
  have q2 : ¬ Q < 0 := by rw [unhide HQ]; omega
  clear hl hb v0 hs hf
  have k0 := (unhide C0).S
  go_enter Try.func8, Try.ntmps8
  go_wp2_with fail
  refine (heldNodes (.slice na n kn) n m 1 (by omega) K HL (k1 : Int) HE (hide (by decide)) HB _ (unhide F0)).mono ?_
  rintro e w1 ⟨rfl, hb⟩
  have C1 := hide ((unhide C0).below hb)
  have S1 := hide ((unhide S0).below hb (unhide S0).le)
  have B1 := hide ((unhide B0).trans (hb.mono (unhide B0).size))
  clear hb k0 C0 S0 F0 B0
  have k1' := (unhide C1).S
  go_wp2_with fail
  refine (heldSto (.slice sa n ks) n lo m k1 h1p (by omega) _ (unhide S1)).mono ?_
  rintro e w2 ⟨rfl, hb⟩
  have C2 := hide ((unhide C1).below hb)
  have B2 := hide ((unhide B1).trans (hb.mono (unhide B1).size))
  rw [← unhide HQ]
  clear hb k1' C1 S1 B1
  have k2 := (unhide C2).S
  go_wp2_with fail
  refine (hmNil Q _).mono ?_
  rintro e w3 ⟨rfl, rfl⟩
  go_wp2_with fail
  refine (hsNil Q _).mono ?_
  rintro e w4 ⟨rfl, rfl⟩
  go_wp2_with fail
  go_ret
  exact ⟨rfl, unhide B2⟩
end Go.Proofs.Ythbkcijkokaoeaa
