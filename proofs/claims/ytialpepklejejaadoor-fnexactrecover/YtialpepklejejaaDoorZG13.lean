/- Texts put together: FrmM NumS FrmU Bf. -/
import Derived.Test.YtialpepklejejaaDoorZCrc
import Derived.Test.YtialpepklejejaaDoorZG3
import Derived.Test.YtialpepklejejaaDoorZG7
import Derived.Lib.ConvBytes
import Derived.Test.YtialpepklejejaaDoorZPair
/- Frames read from bytes. Plain mathematics. -/
namespace Go.Proofs.YtialpepklejejaaDoor
open Go.ChangeShapes Go.WideShapes Go.ChangeAt Go.RowKit
/-- The data's length that a frame's head tells. -/
def frN (l : List UInt8) : Nat := ofBE (l.take 3)
/-- What is wrong with the first frame: 0 nothing, 14 not whole, 8 none. -/
def frC (l : List UInt8) : Int := if l.length < 7 then 14 else if frN l < 1 ∨ 65536 < frN l then 8 else if l.length - 7 < frN l then 14 else if chk (l.take 3 ++ (l.drop 7).take (frN l)) = ((ofBE ((l.drop 3).take 4) : Nat) : Int) then 0 else 8
def frD (l : List UInt8) : List UInt8 := (l.drop 7).take (frN l)
def frT (l : List UInt8) : List UInt8 := (l.drop 7).drop (frN l)
/-- The frames, how many bytes they are, what is behind. -/
def frs : Nat → List UInt8 → List ByteArray × Nat × Int
  | 0, _ => ([], 0, 0)
  | f + 1, l => if l = [] then ([], 0, 0) else if frC l = 0 then (⟨(frD l).toArray⟩ :: (frs f (frT l)).1, 7 + frN l + (frs f (frT l)).2.1, (frs f (frT l)).2.2) else ([], 0, frC l)
theorem frC_ok {l : List UInt8} (h : frC l = 0) : 7 ≤ l.length ∧ 1 ≤ frN l ∧ frN l ≤ 65536 ∧ 7 + frN l ≤ l.length ∧ chk (l.take 3 ++ frD l) = ((ofBE ((l.drop 3).take 4) : Nat) : Int) := by
  unfold frC at h
  split at h
  · cases h
  · split at h
    · cases h
    · split at h
      · cases h
      · split at h
        · rename_i h4
          exact ⟨by omega, by omega, by omega, by omega, h4⟩
        · cases h
theorem frT_len {l : List UInt8} (h : frC l = 0) : (frT l).length + (7 + frN l) = l.length := by
  obtain ⟨h1, h2, h3, h4, _⟩ := frC_ok h
  unfold frT
  rw [List.length_drop, List.length_drop]; omega
theorem frD_len {l : List UInt8} (h : frC l = 0) : (frD l).length = frN l := by
  obtain ⟨h1, h2, h3, h4, _⟩ := frC_ok h
  unfold frD
  rw [List.length_take, List.length_drop]; omega
theorem frs_nil (f : Nat) : frs f [] = ([], 0, 0) := by cases f <;> simp [frs]
theorem frs_step {l : List UInt8} (f : Nat) (h0 : l ≠ []) (h : frC l = 0) : frs (f + 1) l = (⟨(frD l).toArray⟩ :: (frs f (frT l)).1, 7 + frN l + (frs f (frT l)).2.1, (frs f (frT l)).2.2) := by
  simp only [frs, if_neg h0, if_pos h]
theorem frs_bad {l : List UInt8} (f : Nat) (h0 : l ≠ []) (h : ¬ frC l = 0) : frs (f + 1) l = ([], 0, frC l) := by
  simp only [frs, if_neg h0, if_neg h]
theorem frs_all : ∀ (f : Nat) (l : List UInt8), l.length ≤ f → (frs f l).2.2 = 0 → (frs f l).2.1 = l.length
  | 0, l, h, _ => by have : l = [] := List.eq_nil_of_length_eq_zero (by omega); subst this; rfl
  | f + 1, l, h, hc => by
    by_cases h0 : l = []
    · subst h0; rw [frs_nil]; rfl
    · by_cases h1 : frC l = 0
      · rw [frs_step f h0 h1] at hc ⊢
        have := frT_len h1
        have ih := frs_all f (frT l) (by omega) hc
        show 7 + frN l + (frs f (frT l)).2.1 = _
        omega
      · rw [frs_bad f h0 h1] at hc; exact absurd hc h1
theorem frs_len : ∀ (f : Nat) (l : List UInt8), (frs f l).1.length ≤ f
  | 0, l => by simp [frs]
  | f + 1, l => by
    by_cases h0 : l = []
    · subst h0; rw [frs_nil]; simp
    · by_cases h1 : frC l = 0
      · rw [frs_step f h0 h1]; have := frs_len f (frT l); simp; omega
      · rw [frs_bad f h0 h1]; simp
theorem frC_codes (l : List UInt8) : frC l = 0 ∨ frC l = 8 ∨ frC l = 14 := by
  unfold frC
  split
  · exact .inr (.inr rfl)
  · split
    · exact .inr (.inl rfl)
    · split
      · exact .inr (.inr rfl)
      · split
        · exact .inl rfl
        · exact .inr (.inl rfl)
/-- What ReadFrames answers. -/
def rdL (l : List UInt8) : List ByteArray := if 65536 < l.length then [] else (frs l.length l).1
def rdP (l : List UInt8) : Int := if 65536 < l.length then 0 else ((frs l.length l).2.1 : Int)
def rdC (l : List UInt8) : Int := if 65536 < l.length then 2 else (frs l.length l).2.2
end Go.Proofs.YtialpepklejejaaDoor

/- l02Of: the number of a text of bytes. -/
namespace Go.Proofs.YtialpepklejejaaDoor
open Go.ChangeShapes Go.WideShapes Go.ChangeAt Go.RowKit
set_option maxHeartbeats 400000 in
set_option maxRecDepth 100000 in
theorem snumberOf (s : ByteArray) (hs : s.size ≤ 4) (w : World) :
    Calls Tryd.prog 34 #[.string s] w fun e w' => e = .returned (.int .i64 ((ofBE s.data.toList : Nat) : Int)) ∧ w' = w := by
  obtain ⟨l, hl⟩ : ∃ l, l = s.data.toList := ⟨_, rfl⟩
  have hll : l.length = s.size := by rw [hl]; simp
  rw [← hl]
  have HL := hide hl
  clear hl
  go_enter Tryd.func34, Tryd.ntmps34
  go_wp2_with fail
  go_loop [3, 4] (fun r i => ∃ k y : Nat, k ≤ s.size ∧ i = .int .i64 k ∧ r = .int .i64 (y : Int) ∧ Hid (y = ofBE (l.take k))) (fun _ i => s.size - (intOf i).toNat)
  case atStart => exact ⟨0, 0, by omega, rfl, rfl, rfl⟩
  case round =>
    obtain ⟨k, y, hk, rfl, rfl, HY⟩ := hrel
    have hy : y < 256 ^ k := by have := ofBE_lt l k; rw [← unhide HY] at this; exact this
    by_cases hlt : k < s.size
    · have hy2 : y < 16777216 := Nat.lt_of_lt_of_le hy (Nat.le_trans (Nat.pow_le_pow_right (by decide) (show k ≤ 3 by omega)) (by decide))
      have HE : Hid (l[k]'(by omega) = s[k]) := by show _ = _; have := unhide HL; subst this; rfl
      have HZ : Hid (ofBE (l.take (k + 1)) = y * 256 + s[k].toNat) := by show _ = _; rw [ofBE_snoc l k (by omega), unhide HY, unhide HE]
      have hlt' : (k : Int) < (s.size : Int) := by omega
      have c0 : (s[k].toNat : Int) ≤ 255 := by have := s[k].toNat_lt; omega
      have y0 : (y : Int) ≤ 16777216 := by omega
      clear hy hy2 HE hll
      go_wp2_with fail
      go_round
      case rel => exact ⟨k + 1, y * 256 + s[k].toNat, by omega, by go_num, by go_num, (unhide HZ).symm⟩
      case measure => simp [intOf]; omega
    · have HV : Hid (((ofBE l : Nat) : Int) = (y : Int)) := by show _ = _; rw [unhide HY, List.take_of_length_le (by omega)]
      clear hy hll
      go_wp2_with fail
      go_ret
      exact ⟨ret_int (unhide HV).symm, rfl⟩
end Go.Proofs.YtialpepklejejaaDoor

/- Small laws on texts and rows of bytes, for frames. -/
namespace Go.Proofs.YtialpepklejejaaDoor
open Go.ChangeShapes Go.WideShapes Go.ChangeAt Go.RowKit
set_option linter.unusedVariables false
theorem cut_listT (s : ByteArray) (i j : Nat) : (s.extract i j).data.toList = (s.data.toList.drop i).take (j - i) := by simp
theorem cut_sizeT (s : ByteArray) (i j : Nat) (h : j ≤ s.size) : (s.extract i j).size = j - i := by rw [ByteArray.size_extract]; omega
theorem lit_emptyT (w : World) (base : Nat) (t : TypeId) (hb : base ≤ w.heap.size) : (w.alloc (.cells #[] t)).ownsRow base t 1 (.slice (some ⟨w.heap.size, 0, none⟩) 0 0) ([] : List ByteArray).length (cS []) := lit_empty w base t hb
theorem own_appF {w : World} {base : Nat} {e : TypeId} {v : Value} {l m : List ByteArray} {n : Nat} (h : w.ownsRow base e 1 v (l.length + n) (cS l ++ cS m)) (hn : m.length = n) : w.ownsRow base e 1 v (l ++ m).length (cS (l ++ m)) := by
  rw [cS_app, List.length_append, hn]; exact h
theorem sizeT (s : ByteArray) : s.data.toList.length = s.size := by rw [Array.length_toList]; rfl
theorem bytes_belowT (w : World) (s : ByteArray) : Below w.heap.size w (Go.Lib.bytesWorld w 5 s) := ⟨rfl, rfl, rfl, by rw [Go.Lib.bytesWorld_size]; omega, fun k hk => Go.Lib.bytesWorld_at_old w _ s k hk⟩
theorem bytes_rowT (w : World) (s : ByteArray) : Row8 (Go.Lib.bytesWorld w 5 s) (some ⟨w.heap.size, 0, none⟩) s.data.toList := by
  refine .inr ⟨w.heap.size, 0, rfl, by rw [Go.Lib.bytesWorld_size]; omega, fun i hi => ?_⟩
  have h := Go.Lib.bytesWorld_cell w 5 s i (by rw [← sizeT]; exact hi)
  rw [Nat.zero_add, h, List.getD_eq_getElem?_getD, List.getElem?_eq_getElem hi]; rfl
theorem check16n (a : Option Addr) (cap n : Nat) (l : List UInt8) (hn : l.length = n) (hl : n ≤ 65536) (w : World) (hr : Row8 w a l) :
    Calls Tryd.prog 35 #[.slice a n cap] w fun e w' => e = .returned (.int .i64 (chk l)) ∧ w' = w := by
  subst hn; exact check16 a cap l hl w hr
theorem cat_listT (a b : ByteArray) : (a ++ b).data.toList = a.data.toList ++ b.data.toList := by simp
end Go.Proofs.YtialpepklejejaaDoor

/- A block that stands, and what is stored into it. -/
namespace Go.Proofs.YtialpepklejejaaDoor
open Go.ChangeShapes Go.WideShapes Go.ChangeAt Go.RowKit
/-- A block that stands and may be written. -/
structure BF (n : Nat) (cs : Array Value) (wA : World) : Prop where
  S : ∀ o, wA.cell? ⟨n, o, none⟩ = cs[o]?
  F : ∀ o, wA.frozen? ⟨n, o, none⟩ = false
  lt : n < wA.heap.size
theorem BF.keep {n : Nat} {cs : Array Value} {wA w' : World} (h : BF n cs wA) (hs : wA.heap.size ≤ w'.heap.size) (hb : w'.heap[n]? = wA.heap[n]?) : BF n cs w' :=
  ⟨fun o => (World.cell?_of_block hb).trans (h.S o), fun o => (World.frozen?_of_block hb).trans (h.F o), Nat.lt_of_lt_of_le h.lt hs⟩
theorem BF.below {n : Nat} {cs : Array Value} {wA w' : World} (h : BF n cs wA) (hb : Below wA.heap.size wA w') : BF n cs w' := h.keep hb.size (hb.block n h.lt)
theorem BF.alloc {n : Nat} {cs : Array Value} {wA : World} (h : BF n cs wA) (o : Obj) : BF n cs (wA.alloc o) := h.below ((Below.refl _ _).alloc (Nat.le_refl _) o)
theorem BF.grown {n : Nat} {cs : Array Value} {wA w' : World} {row : Option Nat} (h : BF n cs wA) (hg : wA.grownBy w' row) (hne : row ≠ some n) : BF n cs w' := h.keep hg.size (hg.block n h.lt (fun e => hne e.symm))
theorem BF.new (wA : World) (cs : Array Value) (t : TypeId) : BF wA.heap.size cs (wA.alloc (.cells cs t)) := ⟨fun o => World.cell?_alloc_mark wA _ _ _ o, fun o => by simp [go_sem], by simp⟩
theorem BF.set {n : Nat} {cs : Array Value} {wA : World} (h : BF n cs wA) (o : Nat) (ho : o < cs.size) (v : Value) : BF n (cs.setIfInBounds o v) (wA.setCell ⟨n, o, none⟩ v) := by
  refine ⟨fun k => ?_, fun k => by rw [World.frozen?_setCell]; exact h.F k, by simpa using h.lt⟩
  by_cases e : k = o
  · subst e
    have h1 : wA.cell? ⟨n, k, none⟩ = some cs[k] := by rw [h.S k]; exact Array.getElem?_eq_getElem ho
    rw [World.cell?_setCell_same _ _ _ h1, Array.getElem?_setIfInBounds_self_of_lt ho]
  · rw [World.cell?_setCell_other _ _ _ _ (by intro h2; injection h2 with _ h3; exact e h3.symm), h.S k, Array.getElem?_setIfInBounds_ne (Ne.symm e)]
theorem BF.far {n : Nat} {cs : Array Value} {wA : World} (h : BF n cs wA) (a : Addr) (v : Value) (hne : a.block ≠ n) : BF n cs (wA.setCell a v) :=
  ⟨fun k => by rw [World.cell?_setCell_other _ _ _ _ (by intro h2; rw [h2] at hne; exact hne rfl)]; exact h.S k, fun k => by rw [World.frozen?_setCell]; exact h.F k, by simpa using h.lt⟩
theorem BF.drew {n : Nat} {cs : Array Value} {wA : World} (h : BF n cs wA) : BF n cs wA.drew := h.below (Below.refl _ _).drew
end Go.Proofs.YtialpepklejejaaDoor
