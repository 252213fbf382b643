/- Rows of texts: the laws' own helpers. -/
import Derived.Test.YthbkcijkokaoeaaRowV
namespace Go.Proofs.Ythbkcijkokaoeaa
open Go.ChangeShapes Go.WideShapes Go.ChangeAt Go.RowKit
theorem Try.infL9 : (Try.prog.info? 9).map (fun i => (i.zero, i.size, i.bytes)) = some (some (.string ⟨#[]⟩), 1, 16) := by kernel_rfl
def cS (l : List ByteArray) : List Value := l.map fun c => .string (c)
theorem cS_len (l : List ByteArray) : (cS l).length = l.length := by simp [cS]
theorem cS_at (l : List ByteArray) (k : Nat) (h : k < l.length) : (cS l)[k]? = some (.string (l[k])) := by simp [cS, List.getElem?_eq_getElem h]
theorem cS_app (l m : List ByteArray) : cS (l ++ m) = cS l ++ cS m := by simp [cS]
theorem cS_one (l : List ByteArray) : ∀ u ∈ cS l, u.oneCell' = true := by
  intro u hu; simp [cS] at hu; obtain ⟨c, _, rfl⟩ := hu; rfl

set_option maxHeartbeats 400000 in
set_option maxRecDepth 100000 in
theorem sameString (a c : Option Addr) (cap cap2 : Nat) (l : List ByteArray) (hl : l.length ≤ 1048576) (w : World) (hr : RowV w a (cS l)) (hr2 : RowV w c (cS l)) :
    Calls Try.prog 16 #[.slice a l.length cap, .slice c l.length cap2] w fun e w' => e = .returned (.bool true) ∧ Below w.heap.size w w' := by
  have HR := hide hr
  have HR2 := hide hr2
  have HCL := hide (cS_len l)
  clear hr hr2
  have hne : ((l.length : Int) != (l.length : Int)) = false := by simp
  go_enter Try.func16, Try.ntmps16
  go_wp2_with fail
  go_loopw [5] (fun i wr => ∃ k : Nat, k ≤ l.length ∧ i = .int .i64 k ∧ Below w.heap.size w wr) (fun i _ => l.length - (intOf i).toNat)
  case atStart => exact ⟨0, by omega, rfl, Below.refl _ _⟩
  case round =>
    obtain ⟨k, hk, rfl, hb⟩ := hrel
    by_cases hlt : k < l.length
    · obtain ⟨b, off, ha, hblt, hc⟩ := (unhide HR).at (by rw [unhide HCL]; omega)
      obtain ⟨b2, off2, ha2, hblt2, hc2⟩ := (unhide HR2).at (by rw [unhide HCL]; omega)
      subst ha ha2
      have hc1 : wr.cell? ⟨b, off + k, none⟩ = some (.string (l[k])) := (hb.cell (p := ⟨b, off + k, none⟩) hblt).trans (hc k _ (cS_at l k hlt))
      have hc3 : wr.cell? ⟨b2, off2 + k, none⟩ = some (.string (l[k])) := (hb.cell (p := ⟨b2, off2 + k, none⟩) hblt2).trans (hc2 k _ (cS_at l k hlt))
      have hlt' : (k : Int) < (l.length : Int) := by omega
      have hlt0 : (0 : Int) ≤ (k : Int) := by omega
      have hne2 : (l[k].toList != l[k].toList) = false := by simp
      clear hc hc2 HR HR2 HCL
      go_wp2_with fail
      go_region_held3 (fun w' => w'.cell? ⟨b, off + k, none⟩ = some (.string (l[k])) ∧ w'.cell? ⟨b2, off2 + k, none⟩ = some (.string (l[k]))) (go_keep) (fail)
      all_goals
        go_wp2_with fail
        go_roundw
        case rel => exact ⟨k + 1, by omega, by go_num, hb.drew⟩
        case measure => simp [intOf]; omega
    · go_wp2_with fail
      go_ret
      exact ⟨rfl, hb⟩

/-- The text of a mark. -/
def mtD : Nat → Nat → List UInt8 → List UInt8
  | 0, _, acc => acc
  | f + 1, k, acc => if k = 0 then acc else mtD f (k / 10) (UInt8.ofNat (48 + k % 10) :: acc)
def mtS (k : Nat) : ByteArray := ⟨(109 :: mtD k k []).toArray⟩
theorem mtD_zero (f : Nat) (acc : List UInt8) : mtD f 0 acc = acc := by cases f <;> simp [mtD]
theorem mtD_step (f k : Nat) (acc : List UInt8) (hk : 0 < k) (hf : k ≤ f) : mtD f k acc = mtD (f - 1) (k / 10) (UInt8.ofNat (48 + k % 10) :: acc) := by
  obtain ⟨f, rfl⟩ : ∃ g, f = g + 1 := ⟨f - 1, by omega⟩
  show (if k = 0 then acc else _) = _
  rw [if_neg (by omega)]; rfl
theorem str_app (a b : List UInt8) : (⟨a.toArray⟩ : ByteArray) ++ ⟨b.toArray⟩ = ⟨(a ++ b).toArray⟩ := by
  apply ByteArray.ext; simp
set_option maxHeartbeats 400000 in
set_option maxRecDepth 100000 in
theorem markText27 (k0 : Nat) (h0 : 0 < k0) (hk0 : k0 ≤ 4000000) (w : World) :
    Calls Try.prog 33 #[.int .i64 (k0 : Int)] w fun e w' => e = .returned (.string (mtS k0)) ∧ Below w.heap.size w w' := by
  have h0' : ¬ (k0 : Int) ≤ 0 := by omega
  go_enter Try.func33, Try.ntmps33
  go_wp2_with fail
  go_loopw [0, 3] (fun kk s wr => ∃ (k f : Nat) (acc : List UInt8), kk = .int .i64 (k : Int) ∧ k ≤ 4000000 ∧ k ≤ f ∧ s = .string ⟨acc.toArray⟩ ∧ Hid (acc.length + k ≤ 4000000) ∧ Hid (mtD f k acc = mtD k0 k0 []) ∧ Below w.heap.size w wr) (fun kk _ _ => (intOf kk).toNat)
  case atStart => exact ⟨k0, k0, [], rfl, hk0, Nat.le_refl _, rfl, by show [].length + k0 ≤ 4000000; simpa using hk0, rfl, Below.refl _ _⟩
  case round =>
    obtain ⟨k, f, acc, rfl, hk, hf, rfl, HA, HM, hb⟩ := hrel
    by_cases hp : 0 < k
    · have hp' : 0 < (k : Int) := by omega
      obtain ⟨c, hc⟩ : ∃ c : UInt8, c = UInt8.ofNat (48 + k % 10) := ⟨_, rfl⟩
      have hcv : (48 + (k : Int) % 10) = (c.toNat : Int) := by rw [hc, UInt8.toNat_ofNat']; omega
      have hcv2 : (48 + (k : Int).tmod 10) = (c.toNat : Int) := by rw [Int.tmod_eq_emod_of_nonneg (by omega)]; exact hcv
      have hc255 : (c.toNat : Int) % 256 = (c.toNat : Int) := by have := c.toNat_lt; omega
      have hdq : (k : Int).tdiv 10 = ((k / 10 : Nat) : Int) := by rw [Int.tdiv_eq_ediv_of_nonneg (by omega)]; omega
      have HM2 : Hid (mtD (f - 1) (k / 10) (c :: acc) = mtD k0 k0 []) := by show _ = _; rw [← unhide HM, mtD_step f k acc hp hf, hc]
      have HC := hide hc
      have hcw : (convert 68 9 (.slice (some ⟨wr.heap.size, 0, none⟩) 1 1)).run Try.prog (wr.alloc (.cells #[.int .u8 (c.toNat : Int)] 5)) = .ok (.string ⟨#[c]⟩) (wr.alloc (.cells #[.int .u8 (c.toNat : Int)] 5)) := by
        have := conv_own (P := Try.prog) (l := [c]) (base := wr.heap.size) Try.underlying68 Try.underlying5 Try.underlying9 (World.ownsRow_lit wr #[.int .u8 (c.toNat : Int)] 1 (Nat.le_refl _) (by decide) rfl)
        exact this
      have hap : (⟨#[c]⟩ : ByteArray) ++ ⟨acc.toArray⟩ = ⟨(c :: acc).toArray⟩ := str_app [c] acc
      have hal : acc.length ≤ 4000000 := by have := unhide HA; omega
      clear hc
      go_wp2_with fail
      go_roundw
      case rel => exact ⟨k / 10, f - 1, c :: acc, by go_num, by omega, by omega, rfl, by show (c :: acc).length + k / 10 ≤ 4000000; have := unhide HA; rw [List.length_cons]; omega, HM2, hb.alloc hb.size _⟩
      case measure => simp [intOf]; omega
    · have hp' : ¬ 0 < (k : Int) := by omega
      have ek : k = 0 := by omega
      have HV : Hid ((⟨#[109]⟩ : ByteArray) ++ ⟨acc.toArray⟩ = mtS k0) := by
        show _ = _
        have := unhide HM
        rw [ek, mtD_zero] at this
        rw [this]; exact str_app [109] (mtD k0 k0 [])
      have hal : acc.length ≤ 4000000 := by have := unhide HA; omega
      clear ek
      go_wp2_with fail
      go_ret
      exact ⟨ret_string (unhide HV), hb⟩
end Go.Proofs.Ythbkcijkokaoeaa
