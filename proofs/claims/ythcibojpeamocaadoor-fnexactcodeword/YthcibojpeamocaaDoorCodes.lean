/- Codes and their words: what both texts answer at every code and at every word. -/
import Derived.Test.YthcibojpeamocaaDoorBase
import Derived.Lib.LaidTab
namespace Go.Proofs.YthcibojpeamocaaDoor
open Go.ChangeShapes Go.WideShapes Go.ChangeAt Go.RowKit

def codeTexts : List (List UInt8) := [[111, 107], [98, 97, 100], [108, 111, 110, 103], [102, 111, 114, 109], [114, 97, 110, 103, 101], [110, 111, 110, 101], [109, 97, 110, 121], [102, 117, 108, 108], [115, 117, 109], [116, 119, 105, 99, 101], [115, 109, 97, 108, 108], [115, 116, 97, 108, 101], [108, 101, 97, 100, 101, 114], [100, 111, 119, 110], [97, 103, 97, 105, 110], [108, 97, 116, 101], [116, 111, 107, 101, 110], [108, 97, 115, 116], [108, 111, 115, 116], [118, 105, 101, 119]]
def codeText (k : Nat) : ByteArray := ⟨(codeTexts.getD k []).toArray⟩
def wordOf (c : Int) : ByteArray := if 0 ≤ c ∧ c < 20 then codeText c.toNat else ⟨#[]⟩
theorem word_in (k : Nat) (h : k < 20) : wordOf (k : Int) = codeText k := by unfold wordOf; rw [if_pos (by omega)]; simp
theorem word_out (c : Int) (h : c < 0 ∨ 20 ≤ c) : wordOf c = ⟨#[]⟩ := by unfold wordOf; rw [if_neg (by omega)]
theorem texts_at (k : Nat) (h : k < 20) : (codeTexts.map fun t => Value.string ⟨t.toArray⟩)[k]? = some (.string (codeText k)) := by
  have hl : k < codeTexts.length := h
  simp [codeText, List.getElem?_eq_getElem hl]
/-- The table of words lies in its variable. -/
def WordsIn (w : World) : Prop := ∀ k, k < 20 → w.cell? ⟨0, k, none⟩ = some (.string (codeText k))
theorem WordsIn.below {w w' : World} (h : WordsIn w) (hb : Below w.heap.size w w') (h0 : 0 < w.heap.size) : WordsIn w' :=
  fun k hk => (hb.cell (p := ⟨0, k, none⟩) h0).trans (h k hk)

set_option maxHeartbeats 400000 in
theorem word15 (c : Int) (w : World) (ht : WordsIn w) :
    Calls Tryd.prog 15 #[.int .i64 c] w fun e w' => e = .returned (.string (wordOf c)) ∧ w' = w := by
  by_cases h0 : c < 0
  · have HV := hide (word_out c (.inl h0))
    clear ht
    go_enter Tryd.func15, Tryd.ntmps15
    go_wp2_with fail
    go_ret
    rw [unhide HV]
    exact ⟨rfl, rfl⟩
  by_cases h1 : 20 ≤ c
  · have HV := hide (word_out c (.inr h1))
    clear ht
    go_enter Tryd.func15, Tryd.ntmps15
    go_wp2_with fail
    go_ret
    rw [unhide HV]
    exact ⟨rfl, rfl⟩
  obtain ⟨k, rfl⟩ := Int.eq_ofNat_of_zero_le (show 0 ≤ c by omega)
  have HV := hide (word_in k (by omega))
  have hc := ht k (by omega)
  have k1 : (k : Int) < 20 := by omega
  clear ht h0 h1
  go_enter Tryd.func15, Tryd.ntmps15
  go_wp2_with fail
  go_ret
  rw [unhide HV]
  exact ⟨rfl, rfl⟩

set_option maxHeartbeats 400000 in
theorem sword14 (c : Int) (w : World) :
    Calls Tryd.prog 14 #[.int .i64 c] w fun e w' => e = .returned (.string (wordOf c)) ∧ Below w.heap.size w w' := by
  by_cases h0 : c < 0
  · have HV := hide (word_out c (.inl h0))
    go_enter Tryd.func14, Tryd.ntmps14
    go_wp2_with fail
    go_ret
    rw [unhide HV]
    exact ⟨rfl, (Below.refl _ _).alloc (Nat.le_refl _) _⟩
  by_cases h1 : 20 ≤ c
  · have HV := hide (word_out c (.inr h1))
    go_enter Tryd.func14, Tryd.ntmps14
    go_wp2_with fail
    go_ret
    rw [unhide HV]
    exact ⟨rfl, (Below.refl _ _).alloc (Nat.le_refl _) _⟩
  obtain ⟨k, rfl⟩ := Int.eq_ofNat_of_zero_le (show 0 ≤ c by omega)
  have HV := hide (word_in k (by omega))
  have k1 : (k : Int) < 20 := by omega
  have hk := texts_at k (by omega)
  unfold codeTexts at hk
  simp only [List.map_cons, List.map_nil] at hk
  clear h0 h1
  go_enter Tryd.func14, Tryd.ntmps14
  go_wp2_with fail
  go_ret
  rw [unhide HV]
  exact ⟨rfl, (Below.refl _ _).alloc (Nat.le_refl _) _⟩

/-- The first place, from k on and of n places, at which a word stands. -/
def findFrom (s : ByteArray) : Nat → Nat → Int
  | _, 0 => -1
  | k, n + 1 => if (codeText k).toList == s.toList then (k : Int) else findFrom s (k + 1) n
def codeNo (s : ByteArray) : Int := findFrom s 0 20
theorem find_hit (s : ByteArray) (k n : Nat) (h : ((codeText k).toList == s.toList) = true) : findFrom s k (n + 1) = k := by unfold findFrom; rw [if_pos h]
theorem find_miss (s : ByteArray) (k n : Nat) (h : ((codeText k).toList == s.toList) = false) : findFrom s k (n + 1) = findFrom s (k + 1) n := by
  rw [findFrom, if_neg (by rw [h]; decide)]

set_option maxHeartbeats 400000 in
theorem code17 (s : ByteArray) (w : World) (ht : WordsIn w) :
    Calls Tryd.prog 17 #[.string s] w fun e w' => e = .returned (.int .i64 (codeNo s)) ∧ w' = w := by
  have HT := hide ht
  clear ht
  go_enter Tryd.func17, Tryd.ntmps17
  go_wp2_with fail
  go_loop [4] (fun i => ∃ k : Nat, k ≤ 20 ∧ i = .int .i64 k ∧ Hid (codeNo s = findFrom s k (20 - k))) (fun i => 20 - (intOf i).toNat)
  case atStart => exact ⟨0, by omega, rfl, rfl⟩
  case round =>
    obtain ⟨k, hk, rfl, HF⟩ := hrel
    by_cases hlt : k < 20
    · have hc := (unhide HT) k hlt
      have k1 : (k : Int) < 20 := by omega
      obtain ⟨n, hn⟩ : ∃ n, 20 - k = n + 1 := ⟨20 - k - 1, by omega⟩
      cases he : ((codeText k).toList == s.toList)
      · have HN : Hid (codeNo s = findFrom s (k + 1) (20 - (k + 1))) := by
          show _ = _
          rw [unhide HF, hn, find_miss s k n he, show 20 - (k + 1) = n from by omega]
        clear hn
        go_wp2_with fail
        go_round
        case rel => exact ⟨k + 1, by omega, by go_num, HN⟩
        case measure => simp [intOf]; omega
      · have HN : Hid (codeNo s = k) := by show _ = _; rw [unhide HF, hn, find_hit s k n he]
        clear hn
        go_wp2_with fail
        go_ret
        rw [unhide HN]
        exact ⟨rfl, rfl⟩
    · have HN : Hid (codeNo s = -1) := by show _ = _; rw [unhide HF, show 20 - k = 0 from by omega]; rfl
      go_wp2_with fail
      go_ret
      rw [unhide HN]
      exact ⟨rfl, rfl⟩

set_option maxHeartbeats 400000 in
theorem scode16 (s : ByteArray) (w : World) :
    Calls Tryd.prog 16 #[.string s] w fun e w' => e = .returned (.int .i64 (codeNo s)) ∧ Below w.heap.size w w' := by
  go_enter Tryd.func16, Tryd.ntmps16
  go_wp2_with fail
  go_loopw [3] (fun i wr => ∃ k : Nat, k ≤ 20 ∧ i = .int .i64 k ∧ Hid (codeNo s = findFrom s k (20 - k)) ∧ Below w.heap.size w wr) (fun i _ => 20 - (intOf i).toNat)
  case atStart => exact ⟨0, by omega, rfl, rfl, Below.refl _ _⟩
  case round =>
    obtain ⟨k, hk, rfl, HF, hb⟩ := hrel
    by_cases hlt : k < 20
    · have k1 : (k : Int) < 20 := by omega
      obtain ⟨n, hn⟩ : ∃ n, 20 - k = n + 1 := ⟨20 - k - 1, by omega⟩
      have HW := hide (word_in k hlt)
      cases he : ((codeText k).toList == s.toList)
      · have HN : Hid (codeNo s = findFrom s (k + 1) (20 - (k + 1))) := by
          show _ = _
          rw [unhide HF, hn, find_miss s k n he, show 20 - (k + 1) = n from by omega]
        clear hn
        go_wp2_with (go_at_call 14; refine (sword14 _ _).mono ?_; rintro e w1 ⟨rfl, hb1⟩; rw [unhide HW])
        go_roundw
        case rel => exact ⟨k + 1, by omega, by go_num, HN, hb.trans (hb1.mono hb.size)⟩
        case measure => simp [intOf]; omega
      · have HN : Hid (codeNo s = k) := by show _ = _; rw [unhide HF, hn, find_hit s k n he]
        clear hn
        go_wp2_with (go_at_call 14; refine (sword14 _ _).mono ?_; rintro e w1 ⟨rfl, hb1⟩; rw [unhide HW])
        go_ret
        rw [unhide HN]
        exact ⟨rfl, hb.trans (hb1.mono hb.size)⟩
    · have HN : Hid (codeNo s = -1) := by show _ = _; rw [unhide HF, show 20 - k = 0 from by omega]; rfl
      go_wp2_with fail
      go_ret
      rw [unhide HN]
      exact ⟨rfl, hb⟩

/-- An array of strings that reads as the list ss holds those strings, cell for cell. -/
theorem strs_of_trod {H : Type} {enc : TypeId × Value → H} {P : Program} {w : World} {base : Nat} {sp : Nat → Bool} {held : Bool} {fuel : Nat} {t e : TypeId} {n : Nat} {cs : List Value} {ss : List (List UInt8)} {p : List MemPlace}
    (ht : P.underlying t = some (.array n e)) (he : P.underlying e = some .string) (hce : P.cellsOf e = 1) (hct : P.cellsOf t = n)
    (h : DataW.trod enc P w base sp held fuel t cs = some (.agg (ss.map fun s => .lit (.string s)), p)) : ∀ k, k < n → cs[k]? = some (.string ⟨(ss.getD k []).toArray⟩) := by
  obtain ⟨xs, m, rfl, hx, hlen, hn, hel⟩ := DataW.trod_array ht h
  intro k hk
  have hkx : k < xs.length := by omega
  have h1 := hel k hk
  rw [List.getElem?_eq_getElem hkx, hce, Nat.mul_one] at h1
  obtain ⟨s, e1, e2, _⟩ := DataW.trod_string he h1
  simp only [Prod.mk.injEq, DataW.agg.injEq] at hx
  have h2 := congrArg (fun l => l[k]?) hx.1
  simp only [List.getElem?_map, List.getElem?_eq_getElem hkx, Option.map_some, e2] at h2
  have hks : k < ss.length := by have := congrArg List.length hx.1; simp at this; omega
  rw [List.getElem?_eq_getElem hks] at h2
  simp only [Option.map_some, Option.some.injEq, DataW.lit.injEq, Lit.string.injEq] at h2
  have h3 : cs[k]? = some (.string s) := by
    have h4 := congrArg (fun l => l[0]?) e1
    simpa [List.getElem?_take, List.getElem?_drop] using h4
  rw [h3, show ss.getD k [] = ss[k] from by simp [hks], h2]

theorem gWords : Tryd.prog.cellsOf 39 = 20 := by kernel_rfl
/-- What the row's list gives: the words lie in their variable. -/
theorem words_laid {W : World} (h : laidMetH Tryd.prog Rows.fnExactCodeWordRow.laid W) : WordsIn W := by
  obtain ⟨ps, ⟨g, t, cs, fuel, p, q, hg, ht, hv, hd, _, _⟩, _⟩ := h
  obtain rfl : g = 0 := (Option.some.inj ((show Tryd.prog.globalNamed _ = some 0 by kernel_rfl).symm.trans hg)).symm
  obtain rfl : t = 39 := (Option.some.inj ((show (Tryd.prog.globals[0]?).map (·.type) = some 39 by kernel_rfl).symm.trans ht)).symm
  have hc := strs_of_trod (ss := codeTexts) Tryd.underlying39 Tryd.underlying9 (by kernel_rfl) gWords hd
  intro k hk
  have h1 := World.var?_cell hg hv k
  have h2 := hc k hk
  rw [Array.getElem?_toList] at h2
  rw [h1, h2]
  rfl
theorem words_laid2 {W : World} (h : laidMetH Tryd.prog Rows.fnExactCodeOfRow.laid W) : WordsIn W := words_laid h
theorem WordsIn.pos {w : World} (h : WordsIn w) : 0 < w.heap.size := World.block_lt_of_cell? w _ (h 0 (by decide))
end Go.Proofs.YthcibojpeamocaaDoor
