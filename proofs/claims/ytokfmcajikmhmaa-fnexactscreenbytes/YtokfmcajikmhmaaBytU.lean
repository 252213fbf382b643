/- ScreenBytes: what the specification answers, as a slice; rows that stand between two bounds. -/
import Derived.Test.YtokfmcajikmhmaaBytT
import Derived.Lib.ConvBytes
namespace Go.Proofs.Ytokfmcajikmhmaa
open Go.ChangeShapes Go.WideShapes Go.ChangeAt Go.RowKit
set_option linter.unusedVariables false
/-- A row that is only read, in a block between two bounds. -/
structure RowIn (w : World) (lo hi : Nat) (a : Option Addr) (xs : List Value) : Prop where
  row : RowV w a xs
  blk : ∀ b off, a = some ⟨b, off, none⟩ → lo ≤ b ∧ b < hi
  le : hi ≤ w.heap.size
theorem RowIn.keep {w w' : World} {lo hi : Nat} {a : Option Addr} {xs : List Value} (h : RowIn w lo hi a xs) (hs : w.heap.size ≤ w'.heap.size) (hb : ∀ k, lo ≤ k → k < hi → w'.heap[k]? = w.heap[k]?) : RowIn w' lo hi a xs := by
  refine ⟨?_, h.blk, Nat.le_trans h.le hs⟩
  rcases h.row with h1 | ⟨b, off, rfl, hlt, hc⟩
  · exact .inl h1
  · obtain ⟨h1, h2⟩ := h.blk b off rfl
    exact .inr ⟨b, off, rfl, Nat.lt_of_lt_of_le hlt hs, fun i u hu => (World.cell?_of_block (hb b h1 h2)).trans (hc i u hu)⟩
theorem RowIn.below {w w' : World} {lo hi : Nat} {a : Option Addr} {xs : List Value} (h : RowIn w lo hi a xs) (hb : Below w.heap.size w w') : RowIn w' lo hi a xs :=
  h.keep hb.size (fun k _ hk => hb.block k (Nat.lt_of_lt_of_le hk h.le))
theorem RowIn.spared {w w' : World} {lo hi lo2 hi2 : Nat} {a : Option Addr} {xs : List Value} (h : RowIn w lo hi a xs) (hs : Spared w w' lo2 hi2) (hr : hi ≤ lo2 ∨ hi2 ≤ lo) : RowIn w' lo hi a xs :=
  h.keep hs.size (fun k h1 h2 => hs.block k (Nat.lt_of_lt_of_le h2 h.le) (by omega))
theorem RowIn.grown {w w' : World} {lo hi : Nat} {row : Option Nat} {a : Option Addr} {xs : List Value} (h : RowIn w lo hi a xs) (hg : w.grownBy w' row) (hr : ∀ k, row = some k → hi ≤ k ∨ k < lo) : RowIn w' lo hi a xs :=
  h.keep hg.size (fun k h1 h2 => hg.block k (Nat.lt_of_lt_of_le h2 h.le) (fun e => by have := hr k e.symm; omega))
theorem sb_len (i0 i1 i2 i3 i4 i5 i6 i7 i8 : Int) (t : ByteArray) (l : List (Int × Int)) (m : List ByteArray) : (sbV (okB i0 i1 i2 i3 i4 i5 i6 i7 i8 t.data.toList l m) i0 i1 i2 i3 i4 i5 i6 i7 i8 t l m).length ≤ 1048576 := by
  cases h : (okB i0 i1 i2 i3 i4 i5 i6 i7 i8 t.data.toList l m)
  · simp [sbV]
  · obtain ⟨W, H, e0, e1, w1, w2, h3, h4, hlen, hcell⟩ := ok_parts h
    obtain ⟨hfit, ht40, hm6, hms⟩ := ok_more h
    have ht2 : t.size ≤ 40 := by rw [← text_len]; exact ht40
    unfold sbV sbL
    rw [if_pos rfl, e0, e1, Int.toNat_natCast, Int.toNat_natCast, List.length_append, be_len]
    have h1 := fieldsL_le _ 600 (sbF_sizes [(W : Int), (H : Int), i2, i3, i4, i5, i6, i7, i8] t m W l H (by simp) ht2 hm6 hms w2)
    rw [sbF_len] at h1
    have h2 : (2 + 600) * (3 + H) ≤ 602 * 13 := Nat.mul_le_mul (Nat.le_refl _) (by omega)
    omega
theorem to_in (w : World) (L : List UInt8) : ∃ w' cap, (convert 9 27 (.string ⟨L.toArray⟩)).run Try.prog w = .ok (.slice (some ⟨w.heap.size, 0, none⟩) L.length cap) w' ∧ RowIn w' w.heap.size w'.heap.size (some ⟨w.heap.size, 0, none⟩) (B8 L) ∧ Below w.heap.size w w' := by
  have e : (⟨L.toArray⟩ : ByteArray).size = L.length := mk_size L
  refine ⟨Go.Lib.bytesWorld w 5 ⟨L.toArray⟩, _, by rw [← e]; exact Go.Lib.run_convert_string_bytes w _ _ 5 _ Try.underlying9 Try.underlying27 Try.underlying5, ⟨?_, ?_, Nat.le_refl _⟩, ?_⟩
  · refine .inr ⟨w.heap.size, 0, rfl, by rw [Go.Lib.bytesWorld_size]; omega, fun i u hu => ?_⟩
    have hi : i < L.length := by have := (List.getElem?_eq_some_iff.1 hu).1; rwa [B8_len] at this
    have h := Go.Lib.bytesWorld_cell w 5 ⟨L.toArray⟩ i (by rw [e]; exact hi)
    rw [Nat.zero_add, h, ← hu]
    simp [B8, hi]
  · intro b off h
    rw [Go.Lib.bytesWorld_size]
    injection h with h; injection h with h1 h2; omega
  · exact ⟨rfl, rfl, rfl, by rw [Go.Lib.bytesWorld_size]; omega, fun k hk => Go.Lib.bytesWorld_at_old w _ _ k hk⟩
set_option maxHeartbeats 1000000 in
set_option maxRecDepth 100000 in
theorem ssb (i0 i1 i2 i3 i4 i5 i6 i7 i8 : Int) (t : ByteArray) (a : Option Addr) (cap : Nat) (l : List (Int × Int)) (b : Option Addr) (capb : Nat) (m : List ByteArray) (ht : t.size ≤ 1048576) (hl : l.length ≤ 1048576) (hm : m.length ≤ 1048576) (hz : ∀ k (h : k < m.length), m[k].size ≤ 1048576) (hcap : l.length ≤ cap) (w : World) (hr : RowV w a (cP l)) (hs : RowV w b (cS m)) :
    Calls Try.prog 5 #[.agg #[.int .i64 i0, .int .i64 i1, .int .i64 i2, .int .i64 i3, .int .i64 i4, .int .i64 i5, .int .i64 i6, .int .i64 i7, .int .i64 i8, .string t, .slice a l.length cap, .slice b m.length capb]] w fun e w' => ∃ a' cap', e = .returned (.tuple #[.slice a' (sbV (okB i0 i1 i2 i3 i4 i5 i6 i7 i8 t.data.toList l m) i0 i1 i2 i3 i4 i5 i6 i7 i8 t l m).length cap', .int .i64 (sbC (okB i0 i1 i2 i3 i4 i5 i6 i7 i8 t.data.toList l m))]) ∧ RowIn w' w.heap.size w'.heap.size a' (B8 (sbV (okB i0 i1 i2 i3 i4 i5 i6 i7 i8 t.data.toList l m) i0 i1 i2 i3 i4 i5 i6 i7 i8 t l m)) ∧ Below w.heap.size w w' := by
  have H1 : Hid (∀ w2 : World, Below w.heap.size w w2 → Calls Try.prog 15 #[.agg #[.int .i64 i0, .int .i64 i1, .int .i64 i2, .int .i64 i3, .int .i64 i4, .int .i64 i5, .int .i64 i6, .int .i64 i7, .int .i64 i8, .string t, .slice a l.length cap, .slice b m.length capb]] w2 fun e w' => e = .returned (.bool (okB i0 i1 i2 i3 i4 i5 i6 i7 i8 t.data.toList l m)) ∧ Below w2.heap.size w2 w') := fun w2 hb => sok i0 i1 i2 i3 i4 i5 i6 i7 i8 t a cap l b capb m ht hl hm hz w2 (hr.below hb) (hs.below hb)
  have G1 : Hid (∀ w2 : World, (okB i0 i1 i2 i3 i4 i5 i6 i7 i8 t.data.toList l m) = true → Below w.heap.size w w2 → Calls Try.prog 16 #[.agg #[.int .i64 i0, .int .i64 i1, .int .i64 i2, .int .i64 i3, .int .i64 i4, .int .i64 i5, .int .i64 i6, .int .i64 i7, .int .i64 i8, .string t, .slice a l.length cap, .slice b m.length capb]] w2 fun e w' => e = .returned (.string ⟨(sbV (okB i0 i1 i2 i3 i4 i5 i6 i7 i8 t.data.toList l m) i0 i1 i2 i3 i4 i5 i6 i7 i8 t l m).toArray⟩) ∧ Below w2.heap.size w2 w') := fun w2 h hb => sbytesI i0 i1 i2 i3 i4 i5 i6 i7 i8 t a cap l b capb m hl hcap h w2 (hr.below hb) (hs.below hb)
  have HN : Hid ((okB i0 i1 i2 i3 i4 i5 i6 i7 i8 t.data.toList l m) = false → (sbV (okB i0 i1 i2 i3 i4 i5 i6 i7 i8 t.data.toList l m) i0 i1 i2 i3 i4 i5 i6 i7 i8 t l m) = []) := fun h => by rw [h]; rfl
  clear hz ht hl hm hr hs hcap
  generalize (okB i0 i1 i2 i3 i4 i5 i6 i7 i8 t.data.toList l m) = okA at *
  generalize (sbV okA i0 i1 i2 i3 i4 i5 i6 i7 i8 t l m) = LA at *
  have R0 := hide (RB.start w #[.int .i64 i0, .int .i64 i1, .int .i64 i2, .int .i64 i3, .int .i64 i4, .int .i64 i5, .int .i64 i6, .int .i64 i7, .int .i64 i8, .string t, .slice a l.length cap, .slice b m.length capb] 32)
  have K0 := (unhide R0).S
  cases okA
  · have e := unhide HN rfl
    subst e
    rw [show sbC false = 1 from rfl]
    go_enter Try.func5, Try.ntmps5
    go_wp2_with (go_at_call 15; refine (unhide H1 _ (unhide R0).blw).mono ?_; rintro e w2 ⟨rfl, hb⟩; have R2 := hide ((unhide R0).below hb); clear hb)
    go_ret2
    exact ⟨_, _, rfl, ⟨.inl rfl, fun b off h => (by injection h with h; injection h with h1 h2; have := (unhide R2).lt; simp; omega), Nat.le_refl _⟩, ((unhide R2).alloc _).blw⟩
  · rw [show sbC true = 0 from rfl]
    have D1 := unhide G1
    have E1 := hide (fun w2 hb => D1 w2 rfl hb)
    clear D1 G1 HN
    go_enter Try.func5, Try.ntmps5
    go_wp2_with (first | (go_at_call 15; refine (unhide H1 _ (unhide R0).blw).mono ?_; rintro e w2 ⟨rfl, hb⟩; have R2 := hide ((unhide R0).below hb); have K2 := (unhide R2).S; clear hb) | (go_at_call 16; refine (unhide E1 _ (unhide R2).blw).mono ?_; rintro e w3 ⟨rfl, hb3⟩; have R3 := hide ((unhide R2).below hb3); obtain ⟨w4, c4, hcv, hin, hb4⟩ := to_in w3 LA; have HIN := hide hin; have R4 := hide ((unhide R3).below hb4); clear hb3 hb4 hin; generalize (⟨LA.toArray⟩ : ByteArray) = XA at *))
    go_ret2
    have hin := unhide HIN
    have hlt := (unhide R3).lt
    exact ⟨_, _, rfl, ⟨hin.row, fun b off h => (by have := hin.blk b off h; omega), Nat.le_refl _⟩, (unhide R4).blw⟩
end Go.Proofs.Ytokfmcajikmhmaa
