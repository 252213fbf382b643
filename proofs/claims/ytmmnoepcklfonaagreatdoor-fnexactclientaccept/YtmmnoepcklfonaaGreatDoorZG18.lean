/- Texts put together: MrI CkM EntM. -/
import Derived.Test.YtmmnoepcklfonaaGreatDoorZG17
import Derived.Test.YtmmnoepcklfonaaGreatDoorZG13
/- MirrorOK: what the program answers. -/
namespace Go.Proofs.YtmmnoepcklfonaaGreatDoor
open Go.ChangeShapes Go.WideShapes Go.ChangeAt Go.RowKit
set_option linter.unusedVariables false
/-- Number, W, H, the rows. -/
def mirB (nb W H : Int) (R : List ByteArray) : Bool := if nb = -1 then decide (W = 0) && (decide (H = 0) && decide (R.length = 0)) else inB nb 0 60 && (sizeB W H && rowsB W.toNat H.toNat R)
set_option maxHeartbeats 400000 in
set_option maxRecDepth 100000 in
theorem inumok (x : Int) (R : Bool) (HR : Hid (R = inB x 0 60)) (w : World) : Calls Tryz.prog 46 #[.int .i64 x] w fun e w' => e = .returned (.bool R) ∧ w' = w := by
  go_enter Tryz.func46, Tryz.ntmps46
  go_wp2_with (go_at_call 52; refine (iwi x 0 60 R HR _).mono ?_; rintro e w2 ⟨rfl, rfl⟩)
  go_ret
  exact ⟨rfl, rfl⟩
theorem sizeB_nat {W H : Int} (h : sizeB W H = true) : ∃ a b : Nat, W = (a : Int) ∧ H = (b : Int) ∧ 2 ≤ a ∧ a ≤ 24 ∧ 2 ≤ b ∧ b ≤ 10 := by
  have h1 : 2 ≤ W ∧ W ≤ 24 ∧ 2 ≤ H ∧ H ≤ 10 := of_decide_eq_true h
  exact ⟨W.toNat, H.toNat, by omega, by omega, by omega, by omega, by omega, by omega⟩
set_option maxHeartbeats 1000000 in
set_option maxRecDepth 100000 in
theorem irowsok (a : Option Addr) (cap W H n : Nat) (hW : W ≤ 24) (hH : H ≤ 10) (R : List ByteArray) (HN : Hid (R.length = n)) (hn : n ≤ 1048576) (HS : Hid (∀ k (h : k < R.length), R[k].size ≤ 1048576)) (Q : Bool) (HQ : Hid (Q = rowsB W H R)) (w : World) (hr : RowV w a (cS R)) :
    Calls Tryz.prog 68 #[.slice a n cap, .int .i64 (W : Int), .int .i64 (H : Int)] w fun e w' => e = .returned (.bool Q) ∧ Below w.heap.size w w' := by
  have HR := hide hr
  have B0 := hide (Below.refl w.heap.size w)
  clear hr
  by_cases hnH : n = H
  · subst hnH
    obtain ⟨q, hq⟩ : ∃ q, q = bset (rowAt W R) n := ⟨_, rfl⟩
    obtain ⟨p, hp⟩ : ∃ p, p = 2 ^ n - 1 := ⟨_, rfl⟩
    have HB := hide hq
    have HP := hide hp
    have hne : ((n : Int) == (n : Int)) = true := by simp
    have hqp : ((q : Int) == (p : Int)) = Q := by
      rw [unhide HQ, hq, hp]
      unfold rowsB
      rw [decide_eq_true (unhide HN), Bool.true_and, ← rows_set (unhide HN), Bool.eq_iff_iff]
      simp only [beq_iff_eq, decide_eq_true_eq]
      generalize bset (rowAt W R) n = x
      generalize 2 ^ n - 1 = y
      omega
    clear hq hp
    go_enter Tryz.func68, Tryz.ntmps68
    go_wp2_with (first | (go_at_call 49; refine (iright a cap W n hW R HN hH HS q HB _ (unhide HR)).mono ?_; rintro e w2 ⟨rfl, hb2⟩; have HB2 := hide hb2; clear hb2) | (go_at_call 51; refine (ifirstR n p hH HP _).mono ?_; rintro e w3 ⟨rfl, rfl⟩))
    go_ret
    exact ⟨rfl, unhide HB2⟩
  · have hne : ((n : Int) == (H : Int)) = false := by rw [beq_eq_false_iff_ne]; omega
    obtain rfl : Q = false := by rw [unhide HQ]; unfold rowsB; rw [unhide HN, decide_eq_false hnH]; rfl
    clear hnH HQ
    go_enter Tryz.func68, Tryz.ntmps68
    go_wp2_with fail
    go_ret
    exact ⟨rfl, unhide B0⟩
set_option maxHeartbeats 1000000 in
set_option maxRecDepth 100000 in
theorem imirok (nb vw vh : Int) (a : Option Addr) (cap n : Nat) (R : List ByteArray) (HN : Hid (R.length = n)) (hn : n ≤ 1048576) (HS : Hid (∀ k (h : k < R.length), R[k].size ≤ 1048576)) (Q : Bool) (HQ : Hid (Q = mirB nb vw vh R)) (w : World) (hr : RowV w a (cS R)) :
    Calls Tryz.prog 45 #[.agg #[.int .i64 nb, .int .i64 vw, .int .i64 vh, .slice a n cap]] w fun e w' => e = .returned (.bool Q) ∧ Below w.heap.size w w' := by
  have B0 := hide (Go.Joins.below_alloc1 w (.cells #[.int .i64 nb, .int .i64 vw, .int .i64 vh, .slice a n cap] 32))
  have HR := hide (hr.below (unhide B0))
  have HNI := hide hn
  clear hr
  by_cases h1 : nb = -1
  · subst h1
    have hQ : Q = (decide (vw = 0) && (decide (vh = 0) && decide (n = 0))) := by rw [unhide HQ]; unfold mirB; rw [if_pos rfl, unhide HN]
    clear HQ
    by_cases h2 : vw = 0
    · subst h2
      by_cases h3 : vh = 0
      · subst h3
        have hq : ((n : Int) == 0) = Q := by rw [hQ, Bool.eq_iff_iff]; simp
        clear hQ
        go_enter Tryz.func45, Tryz.ntmps45
        go_wp2_with fail
        go_ret
        exact ⟨rfl, unhide B0⟩
      · have h3' : (vh == 0) = false := by simpa using h3
        obtain rfl : Q = false := by rw [hQ, decide_eq_false h3]; simp
        clear hQ h3
        go_enter Tryz.func45, Tryz.ntmps45
        go_wp2_with fail
        go_ret
        exact ⟨rfl, unhide B0⟩
    · have h2' : (vw == 0) = false := by simpa using h2
      obtain rfl : Q = false := by rw [hQ, decide_eq_false h2]; rfl
      clear hQ h2
      go_enter Tryz.func45, Tryz.ntmps45
      go_wp2_with fail
      go_ret
      exact ⟨rfl, unhide B0⟩
  · have h1' : (nb == -1) = false := by simpa using h1
    have hQ : Q = (inB nb 0 60 && (sizeB vw vh && rowsB vw.toNat vh.toNat R)) := by rw [unhide HQ]; unfold mirB; rw [if_neg h1]
    clear HQ h1
    obtain ⟨c1, hc1⟩ : ∃ c, c = inB nb 0 60 := ⟨_, rfl⟩
    have HC1 := hide hc1
    rw [← hc1] at hQ
    cases c1 with
    | false =>
      obtain rfl : Q = false := hQ
      clear hc1
      go_enter Tryz.func45, Tryz.ntmps45
      go_wp2_with (go_at_call 46; refine (inumok nb false HC1 _).mono ?_; rintro e w2 ⟨rfl, rfl⟩)
      go_ret
      exact ⟨rfl, unhide B0⟩
    | true =>
      cases hc2 : sizeB vw vh with
      | false =>
        obtain rfl : Q = false := by rw [hQ, hc2]; rfl
        have HC2 := hide hc2
        clear hc1 hc2 hQ
        go_enter Tryz.func45, Tryz.ntmps45
        go_wp2_with (first | (go_at_call 46; refine (inumok nb true HC1 _).mono ?_; rintro e w2 ⟨rfl, rfl⟩) | (go_at_call 47; refine (isize vw vh _).mono ?_; rintro e w2 ⟨rfl, rfl⟩; rw [unhide HC2]))
        go_ret
        exact ⟨rfl, unhide B0⟩
      | true =>
        obtain ⟨W, H, rfl, rfl, hW1, hW2, hH1, hH2⟩ := sizeB_nat hc2
        have HQ2 : Hid (Q = rowsB W H R) := by show _ = _; rw [hQ, hc2]; simp
        have HC2 := hide hc2
        clear hc1 hc2 hQ
        go_enter Tryz.func45, Tryz.ntmps45
        go_wp2_with (first | (go_at_call 46; refine (inumok nb true HC1 _).mono ?_; rintro e w2 ⟨rfl, rfl⟩) | (go_at_call 47; refine (isize _ _ _).mono ?_; rintro e w2 ⟨rfl, rfl⟩; rw [unhide HC2]) | (go_at_call 68; refine (irowsok a cap W H n hW2 hH2 R HN (unhide HNI) HS Q HQ2 _ (unhide HR)).mono ?_; rintro e w2 ⟨rfl, hb2⟩; have HB2 := hide ((unhide B0).trans (hb2.mono (unhide B0).size)); clear hb2))
        go_ret
        exact ⟨rfl, unhide HB2⟩
end Go.Proofs.YtmmnoepcklfonaaGreatDoor

/- ClientOK. Plain mathematics. -/
namespace Go.Proofs.YtmmnoepcklfonaaGreatDoor
open Go.ChangeShapes Go.WideShapes Go.ChangeAt Go.RowKit
set_option linter.unusedVariables false
theorem eq_list (a b : ByteArray) : (a.toList == b.toList) = decide (a = b) := by
  rw [ByteArray.toList_eq, ByteArray.toList_eq, Bool.eq_iff_iff]
  simp only [beq_iff_eq, decide_eq_true_eq]
  exact ⟨fun h => by apply ByteArray.ext; exact Array.toList_inj.1 h, fun h => by rw [h]⟩
/-- A token that is the one of a client, a window and a number. -/
def htB (key : ByteArray) (id : Int) (win : ByteArray) (n : Int) (t : ByteArray) : Bool := decide (tmC key id win n = 0) && decide (itkS key id win n = t)
/-- A right client. -/
def clB (key : ByteArray) (id : Int) (win tok : ByteArray) (nb vw vh : Int) (R : List ByteArray) : Bool := mirB nb vw vh R && htB key id win nb tok
theorem mir_num {nb vw vh : Int} {R : List ByteArray} (h : mirB nb vw vh R = true) : -1 ≤ nb ∧ nb ≤ 60 := by
  unfold mirB at h
  split at h
  · omega
  · rw [Bool.and_eq_true] at h
    have h1 := h.1
    unfold inB at h1
    have := of_decide_eq_true h1
    omega
theorem tok_num {c : Int} {win : ByteArray} {n : Int} (h0 : -1 ≤ n) (h1 : n ≤ 60) : tokB c win n = tokB c win 0 := by
  unfold tokB
  rw [show inB n (-1) 60 = true from by unfold inB; exact decide_eq_true ⟨h0, h1⟩, show inB 0 (-1) 60 = true from by unfold inB; decide]
theorem cl_long {key : ByteArray} (h : 65536 < key.size) (id : Int) (win tok : ByteArray) (nb vw vh : Int) (R : List ByteArray) : clB key id win tok nb vw vh R = false := by
  unfold clB htB tmC tmL
  rw [decide_eq_true (p := 65536 < key.size ∨ 65536 < win.size) (.inl h)]
  simp
theorem cl_ask {key : ByteArray} {id : Int} {win : ByteArray} (h : tokB id win 0 = false) (tok : ByteArray) (nb vw vh : Int) (R : List ByteArray) : clB key id win tok nb vw vh R = false := by
  unfold clB
  cases hm : mirB nb vw vh R with
  | false => rfl
  | true =>
    obtain ⟨n0, n1⟩ := mir_num hm
    rw [Bool.true_and]
    unfold htB
    have hne : tmC key id win nb ≠ 0 := fun h0 => by
      have := (tm_parts h0).2
      rw [tok_num n0 n1, h] at this
      cases this
    rw [decide_eq_false hne, Bool.false_and]
theorem cl_mir {nb vw vh : Int} {R : List ByteArray} (h : mirB nb vw vh R = false) (key : ByteArray) (id : Int) (win tok : ByteArray) : clB key id win tok nb vw vh R = false := by
  unfold clB; rw [h]; rfl
theorem cl_yes {key : ByteArray} {id : Int} {win : ByteArray} {nb vw vh : Int} {R : List ByteArray} (hk : key.size ≤ 65536) (ha : tokB id win 0 = true) (hm : mirB nb vw vh R = true) (tok : ByteArray) : clB key id win tok nb vw vh R = decide (tok = issT key id win nb) := by
  obtain ⟨n0, n1⟩ := mir_num hm
  have ht : tokB id win nb = true := by rw [tok_num n0 n1]; exact ha
  have hl : tmL key win = false := by
    have := (tok_parts ht).2.2.1
    unfold tmL; simp; omega
  unfold clB htB tmC itkS
  rw [hm, hl, ht]
  simp only [Bool.true_and, if_true, Bool.false_eq_true, if_false, decide_true]
  rw [Bool.eq_iff_iff, decide_eq_true_eq, decide_eq_true_eq]
  exact ⟨fun h => h.symm, fun h => h.symm⟩
end Go.Proofs.YtmmnoepcklfonaaGreatDoor

/- Rows of entries: a number and a text, two cells each. -/
namespace Go.Proofs.YtmmnoepcklfonaaGreatDoor
open Go.ChangeShapes Go.WideShapes Go.ChangeAt Go.RowKit
def cE (l : List (Int × ByteArray)) : List Value := l.flatMap fun c => [.int .i64 c.1, .string c.2]
theorem cE_cons (c : Int × ByteArray) (l : List (Int × ByteArray)) : cE (c :: l) = .int .i64 c.1 :: .string c.2 :: cE l := rfl
theorem cE_len (l : List (Int × ByteArray)) : (cE l).length = l.length * 2 := by
  induction l with
  | nil => rfl
  | cons c l ih => rw [cE_cons]; simp [ih]; omega
theorem cE_at (l : List (Int × ByteArray)) : ∀ (k : Nat) (h : k < l.length), (cE l)[k * 2]? = some (.int .i64 l[k].1) ∧ (cE l)[k * 2 + 1]? = some (.string l[k].2) := by
  induction l with
  | nil => intro k h; simp at h
  | cons c l ih =>
    intro k h
    cases k with
    | zero => exact ⟨rfl, rfl⟩
    | succ k =>
      have := ih k (by simpa using h)
      rw [cE_cons, show (k + 1) * 2 = k * 2 + 1 + 1 from by omega]
      simpa using this
theorem cE_set (l : List (Int × ByteArray)) : ∀ (k : Nat) (x : Int) (y : ByteArray), ((cE l).set (k * 2) (.int .i64 x)).set (k * 2 + 1) (.string y) = cE (l.set k (x, y)) := by
  induction l with
  | nil => intro k x y; simp [cE]
  | cons c l ih =>
    intro k x y
    cases k with
    | zero => rfl
    | succ k =>
      have := ih k x y
      rw [List.set_cons_succ, cE_cons, cE_cons, show (k + 1) * 2 = k * 2 + 1 + 1 from by omega, List.set_cons_succ, List.set_cons_succ, List.set_cons_succ, List.set_cons_succ, this]
theorem made_ent (n : Nat) : (madeCells #[.int .i64 0, .string ⟨#[]⟩] (n * 2)).toList = cE (List.replicate n (0, ⟨#[]⟩)) := by
  apply List.ext_getElem?
  intro j
  by_cases hj : j < n * 2
  · obtain ⟨h0, h1⟩ := cE_at (List.replicate n ((0 : Int), (⟨#[]⟩ : ByteArray))) (j / 2) (by simp; omega)
    rw [List.getElem_replicate] at h0 h1
    rcases Nat.mod_two_eq_zero_or_one j with h | h
    · rw [show j / 2 * 2 = j from by omega] at h0
      rw [h0]; simp [madeCells, hj, h]
    · rw [show j / 2 * 2 + 1 = j from by omega] at h1
      rw [h1]; simp [madeCells, hj, h]
  · rw [List.getElem?_eq_none (by simp [madeCells]; omega), List.getElem?_eq_none (by rw [cE_len]; simp; omega)]
/-- The first k entries, the others still nought. -/
def fillE (l : List (Int × ByteArray)) (k : Nat) : List (Int × ByteArray) := l.take k ++ List.replicate (l.length - k) (0, ⟨#[]⟩)
theorem fillE_len (l : List (Int × ByteArray)) (k : Nat) (h : k ≤ l.length) : (fillE l k).length = l.length := by simp [fillE]; omega
theorem fillE_zero (l : List (Int × ByteArray)) : fillE l 0 = List.replicate l.length (0, ⟨#[]⟩) := by simp [fillE]
theorem fillE_all (l : List (Int × ByteArray)) (k : Nat) (h : l.length ≤ k) : fillE l k = l := by
  unfold fillE; rw [List.take_of_length_le h, show l.length - k = 0 from by omega]; simp
theorem fillE_at (l : List (Int × ByteArray)) (k : Nat) (h : k < l.length) : (fillE l k)[k]'(by rw [fillE_len l k (by omega)]; exact h) = (0, ⟨#[]⟩) := by
  have e1 : (l.take k).length = k := by rw [List.length_take]; omega
  have : (fillE l k)[k]? = some (0, ⟨#[]⟩) := by
    unfold fillE
    rw [List.getElem?_append_right (by omega), e1, List.getElem?_replicate, if_pos (by omega)]
  exact (List.getElem?_eq_some_iff.1 this).2
theorem fillE_set (l : List (Int × ByteArray)) (k : Nat) (h : k < l.length) : (fillE l k).set k (l[k].1, l[k].2) = fillE l (k + 1) := by
  have e1 : (l.take k).length = k := by rw [List.length_take]; omega
  unfold fillE
  rw [List.set_append_right _ _ (by omega), e1, Nat.sub_self, show l.length - k = (l.length - (k + 1)) + 1 from by omega, List.replicate_succ, List.set_cons_zero, show l.take (k + 1) = l.take k ++ [l[k]] from by rw [List.take_add_one, List.getElem?_eq_getElem h]; rfl, List.append_assoc]
  rfl
theorem row_ent {w : World} {b off : Nat} {l : List (Int × ByteArray)} (hc : ∀ i u, (cE l)[i]? = some u → w.cell? ⟨b, off + i, none⟩ = some u) (k : Nat) (h : k < l.length) :
    w.cell? ⟨b, off + k * 2, none⟩ = some (.int .i64 l[k].1) ∧ w.cell? ⟨b, off + k * 2 + 1, none⟩ = some (.string l[k].2) :=
  ⟨hc _ _ (cE_at l k h).1, hc _ _ (cE_at l k h).2⟩
end Go.Proofs.YtmmnoepcklfonaaGreatDoor
