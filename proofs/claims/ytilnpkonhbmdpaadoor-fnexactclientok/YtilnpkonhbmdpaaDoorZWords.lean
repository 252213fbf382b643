/- The registers as 32 bytes: what wordsText answers. -/
import Derived.Test.YtilnpkonhbmdpaaDoorZMix
namespace Go.Proofs.YtilnpkonhbmdpaaDoor
open Go.ChangeShapes Go.WideShapes Go.ChangeAt Go.RowKit
theorem Tryd.ib5 : (Tryd.prog.info? 5).map (fun i => (i.zero, i.size, i.bytes)) = some (some (.int .u8 0), 1, 1) := by kernel_rfl

def wb (x : BitVec 32) (n : Nat) : UInt8 := UInt8.ofNat (x.toNat / n % 256)
def word4 (x : BitVec 32) : List UInt8 := [wb x 16777216, wb x 65536, wb x 256, wb x 1]
theorem wb_val (x : BitVec 32) (n : Nat) : wI x / (n : Int) % 256 = ((wb x n).toNat : Int) := by
  unfold wb wI; rw [UInt8.toNat_ofNat']; omega
theorem wb_one (x : BitVec 32) : wI x % 256 = ((wb x 1).toNat : Int) := by
  unfold wb wI; rw [UInt8.toNat_ofNat']; omega
def textL (l : List (BitVec 32)) : List UInt8 := l.flatMap word4
def hashB (r : R8) : ByteArray := ⟨(textL r.l).toArray⟩
theorem textL_len (l : List (BitVec 32)) : (textL l).length = 4 * l.length := by
  induction l with
  | nil => rfl
  | cons c l ih => simp [textL, word4] at *; omega
theorem textL_snoc (l : List (BitVec 32)) (k : Nat) (h : k < l.length) : textL (l.take (k + 1)) = textL (l.take k) ++ word4 (gt l k) := by
  rw [List.take_succ_eq_append_getElem h]
  have : gt l k = l[k] := by unfold gt; simp [h]
  rw [this]; unfold textL; rw [List.flatMap_append, List.flatMap_singleton]
theorem idx8_0 (r : R8) (w : World) : (Instr.index 100 (.agg #[.int .u32 (wI r.a), .int .u32 (wI r.b), .int .u32 (wI r.c), .int .u32 (wI r.d), .int .u32 (wI r.e), .int .u32 (wI r.f), .int .u32 (wI r.g), .int .u32 (wI r.y)]) (.int .i64 0)).run Tryd.prog w = .ok (.int .u32 (wI r.a)) w := by kernel_rfl
theorem idx8_1 (r : R8) (w : World) : (Instr.index 100 (.agg #[.int .u32 (wI r.a), .int .u32 (wI r.b), .int .u32 (wI r.c), .int .u32 (wI r.d), .int .u32 (wI r.e), .int .u32 (wI r.f), .int .u32 (wI r.g), .int .u32 (wI r.y)]) (.int .i64 1)).run Tryd.prog w = .ok (.int .u32 (wI r.b)) w := by kernel_rfl
theorem idx8_2 (r : R8) (w : World) : (Instr.index 100 (.agg #[.int .u32 (wI r.a), .int .u32 (wI r.b), .int .u32 (wI r.c), .int .u32 (wI r.d), .int .u32 (wI r.e), .int .u32 (wI r.f), .int .u32 (wI r.g), .int .u32 (wI r.y)]) (.int .i64 2)).run Tryd.prog w = .ok (.int .u32 (wI r.c)) w := by kernel_rfl
theorem idx8_3 (r : R8) (w : World) : (Instr.index 100 (.agg #[.int .u32 (wI r.a), .int .u32 (wI r.b), .int .u32 (wI r.c), .int .u32 (wI r.d), .int .u32 (wI r.e), .int .u32 (wI r.f), .int .u32 (wI r.g), .int .u32 (wI r.y)]) (.int .i64 3)).run Tryd.prog w = .ok (.int .u32 (wI r.d)) w := by kernel_rfl
theorem idx8_4 (r : R8) (w : World) : (Instr.index 100 (.agg #[.int .u32 (wI r.a), .int .u32 (wI r.b), .int .u32 (wI r.c), .int .u32 (wI r.d), .int .u32 (wI r.e), .int .u32 (wI r.f), .int .u32 (wI r.g), .int .u32 (wI r.y)]) (.int .i64 4)).run Tryd.prog w = .ok (.int .u32 (wI r.e)) w := by kernel_rfl
theorem idx8_5 (r : R8) (w : World) : (Instr.index 100 (.agg #[.int .u32 (wI r.a), .int .u32 (wI r.b), .int .u32 (wI r.c), .int .u32 (wI r.d), .int .u32 (wI r.e), .int .u32 (wI r.f), .int .u32 (wI r.g), .int .u32 (wI r.y)]) (.int .i64 5)).run Tryd.prog w = .ok (.int .u32 (wI r.f)) w := by kernel_rfl
theorem idx8_6 (r : R8) (w : World) : (Instr.index 100 (.agg #[.int .u32 (wI r.a), .int .u32 (wI r.b), .int .u32 (wI r.c), .int .u32 (wI r.d), .int .u32 (wI r.e), .int .u32 (wI r.f), .int .u32 (wI r.g), .int .u32 (wI r.y)]) (.int .i64 6)).run Tryd.prog w = .ok (.int .u32 (wI r.g)) w := by kernel_rfl
theorem idx8_7 (r : R8) (w : World) : (Instr.index 100 (.agg #[.int .u32 (wI r.a), .int .u32 (wI r.b), .int .u32 (wI r.c), .int .u32 (wI r.d), .int .u32 (wI r.e), .int .u32 (wI r.f), .int .u32 (wI r.g), .int .u32 (wI r.y)]) (.int .i64 7)).run Tryd.prog w = .ok (.int .u32 (wI r.y)) w := by kernel_rfl
theorem idx8 (r : R8) (k : Nat) (h : k < 8) (w : World) : (Instr.index 100 (.agg #[.int .u32 (wI r.a), .int .u32 (wI r.b), .int .u32 (wI r.c), .int .u32 (wI r.d), .int .u32 (wI r.e), .int .u32 (wI r.f), .int .u32 (wI r.g), .int .u32 (wI r.y)]) (.int .i64 (k : Int))).run Tryd.prog w = .ok (.int .u32 (wI (gt r.l k))) w := by
  have hc : k = 0 ∨ k = 1 ∨ k = 2 ∨ k = 3 ∨ k = 4 ∨ k = 5 ∨ k = 6 ∨ k = 7 := by omega
  rcases hc with rfl | rfl | rfl | rfl | rfl | rfl | rfl | rfl
  · exact idx8_0 r w
  · exact idx8_1 r w
  · exact idx8_2 r w
  · exact idx8_3 r w
  · exact idx8_4 r w
  · exact idx8_5 r w
  · exact idx8_6 r w
  · exact idx8_7 r w
theorem mk32 : ∃ cur : Array Value, cur.size = 32 ∧ ∀ w : World, (Instr.makeSlice 71 (.int .i64 0) (.int .i64 32)).run Tryd.prog w = .ok (.slice (some ⟨w.heap.size, 0, none⟩) 0 32) (w.alloc (.cells cur 5)) :=
  ⟨Array.replicate 32 (.int .u8 0), by simp, fun _ => by kernel_rfl⟩
theorem made_second (w : World) (o : Obj) (cur : Array Value) (e : TypeId) (n : Nat) (hn : n ≤ maxLen) (hc : cur.size = n) : ((w.alloc o).alloc (.cells cur e)).ownsRow (w.heap.size + 1) e 1 (.slice (some ⟨w.heap.size + 1, 0, none⟩) 0 n) 0 [] := by
  have h := World.ownsRow_made (base := w.heap.size + 1) (e := e) (size := 1) (w.alloc o) cur n (by simp) hn (by omega)
  rwa [show (w.alloc o).heap.size = w.heap.size + 1 from by simp] at h
theorem text_rel {w wr w1 : World} {o : Obj} {v v' : Value} {e : TypeId} {m : List UInt8} {l : List (BitVec 32)} {k B : Nat} (hk : k < l.length) (hm : m = textL (l.take k)) (hB : w.heap.size ≤ B)
    (hown : wr.ownsRow B e 1 v m.length (B8 m)) (hbl : Below w.heap.size w wr)
    (hown1 : w1.ownsRow B e 1 v' (m.length + 4) (B8 m ++ B8 (word4 (gt l k))))
    (hgrow : (wr.alloc o).grownBy w1 v.ownBlock) :
    w1.ownsRow B e 1 v' (textL (l.take (k + 1))).length (B8 (textL (l.take (k + 1)))) ∧ Below w.heap.size w w1 := by
  have h := own_app hown1 rfl
  rw [hm, ← textL_snoc l k hk] at h
  exact ⟨h, below_app hbl hbl.size hown hB hgrow⟩

set_option maxHeartbeats 400000 in
set_option maxRecDepth 100000 in
theorem words28 (r : R8) (w : World) :
    Calls Tryd.prog 79 #[.agg #[.int .u32 (wI r.a), .int .u32 (wI r.b), .int .u32 (wI r.c), .int .u32 (wI r.d), .int .u32 (wI r.e), .int .u32 (wI r.f), .int .u32 (wI r.g), .int .u32 (wI r.y)]] w fun e w' => e = .returned (.string (hashB r)) ∧ Below w.heap.size w w' := by
  obtain ⟨i0, hi, hz0, hz1, hz2⟩ := info_parts Tryd.ib5
  obtain ⟨cur, hcs, hmk⟩ := mk32
  have HC := hide hcs
  clear hcs
  go_enter Tryd.func79, Tryd.ntmps79
  go_wp2_with fail
  go_loopw [3, 8] (fun v i wr => ∃ k : Nat, k ≤ 8 ∧ i = .int .i64 k ∧ wr.ownsRow (w.heap.size + 1) 5 1 v (textL (r.l.take k)).length (B8 (textL (r.l.take k))) ∧ Below w.heap.size w wr) (fun _ i _ => 8 - (intOf i).toNat)
  case atStart => exact ⟨0, by omega, rfl, made_second w _ cur 5 32 (by decide) (unhide HC), ((Below.refl _ _).alloc (Nat.le_refl _) _).alloc (by simp) _⟩
  case round =>
    clear hmk
    obtain ⟨k, hk, rfl, hown, hb⟩ := hrel
    by_cases hlt : k < 8
    · have hix := idx8 r k hlt
      have hkl : Hid (k < r.l.length) := hlt
      have hz := hb.size
      obtain ⟨m, hm⟩ : ∃ m, m = textL (r.l.take k) := ⟨_, rfl⟩
      rw [← hm] at hown
      have HM := hide hm
      have HL : m.length ≤ 32 := by rw [hm, textL_len]; have := List.length_take_le k r.l; omega
      obtain ⟨x, hx⟩ : ∃ x, x = gt r.l k := ⟨_, rfl⟩
      rw [← hx] at hix
      have HX := hide hx
      have v1 : wI x / 16777216 % 256 = ((wb x 16777216).toNat : Int) := wb_val x 16777216
      have v2 : wI x / 65536 % 256 = ((wb x 65536).toNat : Int) := wb_val x 65536
      have v3 : wI x / 256 % 256 = ((wb x 256).toNat : Int) := wb_val x 256
      have v4 := wb_one x
      clear hm hx
      go_wp2_with (at_builtin; refine wpList_append_lies _ rfl _ _ 71 rfl (w.heap.size + 1) 5 i0 (.int .u8 0) 1 1 Tryd.underlying71 hi hz0 hz1 hz2 rfl (by decide) _ _ _ rfl (hown.alloc _) ⟨wr.heap.size, 0, none⟩ 4 4 (B8 (word4 x)) rfl rfl (by exact news_new wr (B8 (word4 x)) 5) (B8_one _) (by decide) (by unfold maxLen; omega) (by omega) (by simp; omega) _ rfl ?_; intro g cap w1 hown1 hgrow1 hat1 hlt1; have R := text_rel (unhide hkl) (unhide HM) (by omega) hown hb ((unhide HX) ▸ hown1) hgrow1; clear hown1 hgrow1 hown hb hat1 hlt1 hix v1 v2 v3 v4)
      go_roundw
      case rel => exact ⟨k + 1, by omega, by go_num, R.1, R.2⟩
      case measure => simp [intOf]; omega
    · have ek : k = 8 := by omega
      rw [ek, show r.l.take 8 = r.l from rfl] at hown
      have hcv := conv_own (P := Tryd.prog) Tryd.underlying71 Tryd.underlying5 Tryd.underlying9 hown
      clear hown ek
      go_wp2_with fail
      go_ret
      exact ⟨rfl, hb⟩
end Go.Proofs.YtilnpkonhbmdpaaDoor
