/- FnHmac's road: the keyed hash of drawn bytes, put together by hand. -/
import Derived.Test.YtolbmblffogloaaDoorHmacI
import Derived.Test.YtolbmblffogloaaDoorHmacS
import Derived.Test.YtolbmblffogloaaDoorSrcB
import Derived.Test.YtolbmblffogloaaDoorRounds
namespace Go.Proofs.YtolbmblffogloaaDoor
open Go.ChangeShapes Go.WideShapes Go.ChangeAt Go.RowKit
theorem ihashB (a : Option Addr) (cap : Nat) (l : List UInt8) (n : Nat) (H : ByteArray) (hn : l.length = n) (hH : H = hashB (shaR l)) (hl : l.length ≤ 65536) (w : World) (hr : Row8 w a l) (hk : KIn w) :
    Calls Tryd.prog 12 #[.slice a n cap] w fun e w' => e = .returned (.string H) ∧ Below w.heap.size w w' := by
  subst hn hH
  have HR := hide hr
  have HK := hide hk
  clear hr hk
  go_enter Tryd.func12, Tryd.ntmps12
  go_wp2_with (go_at_call 52; refine (hash20 a cap l (by omega) _ (unhide HR) (unhide HK)).mono ?_; rintro e w1 ⟨rfl, hb⟩)
  go_ret
  exact ⟨rfl, hb⟩
theorem hm_same (key msg : ByteArray) (K : ByteArray) (hK : K = hmacK key) : hmacB K msg = hmacB key msg := by
  have h : hmacK K = K := by
    unfold hmacK; rw [if_neg]
    rw [hK]; unfold hmacK
    split
    · rw [hash_size]; decide
    · assumption
  unfold hmacB hmacIn; rw [h, hK]
theorem hmacK_size (key : ByteArray) : (hmacK key).size ≤ 64 := by
  unfold hmacK; split
  · rw [hash_size]; decide
  · omega
theorem hmacB_size (key msg : ByteArray) : (hmacB key msg).size = 32 := hash_size _
theorem ihmacO (key msg H : ByteArray) (hks : key.size ≤ 65536) (hms : msg.size ≤ 65536) (hH : H = hmacB key msg) (w : World) (hk : KIn w) :
    Calls Tryd.prog 10 #[.string key, .string msg] w fun e w' => e = .returned (.tuple #[.string H, .int .i64 0]) ∧ Below w.heap.size w w' := by
  have h := ihmac key msg (by omega) (by omega) w hk
  rw [(hm_ok (by omega) (by omega)).1, (hm_ok (by omega) (by omega)).2, ← hH] at h
  exact h
theorem shmacO (key msg H : ByteArray) (hks : key.size ≤ 65536) (hms : msg.size ≤ 65536) (hH : H = hmacB key msg) (w : World) :
    Calls Tryd.prog 11 #[.string key, .string msg] w fun e w' => e = .returned (.tuple #[.string H, .int .i64 0]) ∧ Below w.heap.size w w' := by
  have h := shmac key msg (by omega) (by omega) w
  rw [(hm_ok (by omega) (by omega)).1, (hm_ok (by omega) (by omega)).2, ← hH] at h
  exact h
theorem conv_arr {w : World} {g : Nat} {l : List UInt8} (h : ArrAt w g 5 (B8 l)) (hl : l.length = 64) : (convert 22 9 (.slice (some ⟨g, 0, none⟩) 64 64)).run Tryd.prog w = .ok (.string ⟨l.toArray⟩) w := by
  have ho := arr_own8 h hl (by decide)
  exact conv_own (P := Tryd.prog) Tryd.underlying22 Tryd.underlying5 Tryd.underlying9 ho
theorem str_cat (a : List UInt8) (b : ByteArray) : (⟨a.toArray⟩ : ByteArray) ++ b = ⟨(a ++ b.data.toList).toArray⟩ := by
  apply ByteArray.ext; simp
theorem bytes_below (w : World) (s : ByteArray) : Below w.heap.size w (Go.Lib.bytesWorld w 5 s) := ⟨rfl, rfl, rfl, by rw [Go.Lib.bytesWorld_size]; omega, fun k hk => Go.Lib.bytesWorld_at_old w _ s k hk⟩
theorem bytes_row (w : World) (s : ByteArray) : Row8 (Go.Lib.bytesWorld w 5 s) (some ⟨w.heap.size, 0, none⟩) s.data.toList := by
  refine .inr ⟨w.heap.size, 0, rfl, by rw [Go.Lib.bytesWorld_size]; omega, fun i hi => ?_⟩
  have h := Go.Lib.bytesWorld_cell w 5 s i (by rw [← list_size]; exact hi)
  rw [Nat.zero_add, h, List.getD_eq_getElem?_getD, List.getElem?_eq_getElem hi]; rfl
theorem keep_arr {u w7 : World} {g : Nat} {l : List UInt8} {P : ByteArray} (hb : Below (Go.Lib.bytesWorld u 5 P).heap.size (Go.Lib.bytesWorld u 5 P) w7) (h : ArrAt u g 5 (B8 l)) : ArrAt w7 g 5 (B8 l) := by
  have h1 := ArrAt.below h (bytes_below u P) h.lt
  exact h1.below hb h1.lt
theorem keep_bytes {u : World} {g : Nat} {l : List UInt8} {X P : ByteArray} (h : ArrAt u g 5 (B8 l)) (hl : l.length = 64) (hX : X = ⟨l.toArray⟩) : (convert 22 9 (.slice (some ⟨g, 0, none⟩) 64 64)).run Tryd.prog (Go.Lib.bytesWorld u 5 P) = .ok (.string X) (Go.Lib.bytesWorld u 5 P) := by
  rw [hX]; exact conv_arr (ArrAt.below h (bytes_below u P) h.lt) hl
theorem conv_arrX {w : World} {g : Nat} {l : List UInt8} {X : ByteArray} (h : ArrAt w g 5 (B8 l)) (hl : l.length = 64) (hX : X = ⟨l.toArray⟩) : (convert 22 9 (.slice (some ⟨g, 0, none⟩) 64 64)).run Tryd.prog w = .ok (.string X) w := by
  rw [hX]; exact conv_arr h hl
theorem kin_bytes {u : World} {P : ByteArray} (h : KIn u) : KIn (Go.Lib.bytesWorld u 5 P) := KIn.below h (bytes_below u P) h.pos
theorem arr_drew {w : World} {g : Nat} {t : TypeId} {l : List Value} (h : ArrAt w g t l) : ArrAt w.drew g t l := h
theorem kin_drew {w : World} (h : KIn w) : KIn w.drew := h
theorem below_bytes {u w w7 : World} {P : ByteArray} (hb : Below (Go.Lib.bytesWorld u 5 P).heap.size (Go.Lib.bytesWorld u 5 P) w7) (h : Below w.heap.size w u) : Below w.heap.size w w7 := by
  have h1 := h.trans ((bytes_below u P).mono h.size)
  exact h1.trans (hb.mono h1.size)
end Go.Proofs.YtolbmblffogloaaDoor
