/- Texts: decimals, as the document writes them. -/
import Derived.Test.YthdlkpgialmlfaaGreatDoorRows
import Derived.WalkKit
import Derived.WalkSpells
import Derived.WalkLawsBesides
import Derived.Below
import Derived.Handy
namespace Go.Proofs.YthdlkpgialmlfaaGreatDoor
open Go.RowKit

abbrev str (l : List UInt8) : Value := .string ⟨l.toArray⟩
theorem str_app (x y : List UInt8) : (ByteArray.mk x.toArray) ++ ⟨y.toArray⟩ = ⟨(x ++ y).toArray⟩ := by rw [ByteArray.mk_append_mk]
theorem ret_str {x : ByteArray} {y : List UInt8} (h : x = ⟨y.toArray⟩) : Ending.returned (.string x) = .returned (str y) := by rw [h]
/-- The digits of a number, behind those that stand there. -/
def digsN (n : Nat) : List UInt8 := if n < 10 then [UInt8.ofNat (48 + n)] else digsN (n / 10) ++ [UInt8.ofNat (48 + n % 10)]
termination_by n
decreasing_by omega
def decB (n : Int) : List UInt8 := if n < 0 then 45 :: digsN (-n).toNat else digsN n.toNat

theorem digsN_small {n : Nat} (h : n < 10) : digsN n = [UInt8.ofNat (48 + n)] := by rw [digsN, if_pos h]
theorem digsN_step {n : Nat} (h : ¬ n < 10) : digsN n = digsN (n / 10) ++ [UInt8.ofNat (48 + n % 10)] := by rw [digsN, if_neg h]
theorem digsN_length : ∀ (k n : Nat), n < 10 ^ k → 0 < k → (digsN n).length ≤ k
  | 0, _, _, h => by omega
  | k + 1, n, hn, _ => by
    by_cases h : n < 10
    · rw [digsN_small h]; simp
    · rw [digsN_step h]
      have h2 : n / 10 < 10 ^ k := by rw [Nat.div_lt_iff_lt_mul (by omega), ← Nat.pow_succ]; exact hn
      have hk : 0 < k := by
        cases k with
        | zero => simp at hn; omega
        | succ k => omega
      have := digsN_length k _ h2 hk
      simp
      omega

set_option maxRecDepth 100000 in
/-- A text of one byte, out of a row of one. -/
theorem conv1 (w : World) (k : Int) : (convert 134 9 (.slice (some ⟨w.heap.size, 0, none⟩) 1 1)).run Tryz.prog (w.alloc (.cells #[.int .u8 k] 5)) = .ok (str [UInt8.ofNat k.toNat]) (w.alloc (.cells #[.int .u8 k] 5)) := by
  rw [run_convert_bytes_string _ _ _ _ _ _ _ Tryz.underlying134 Tryz.underlying5 Tryz.underlying9, run_bytesToString _ _ _ _ [k] (by simp [go_sem, loadCells])]
  rfl

set_option maxRecDepth 100000 in
set_option maxHeartbeats 1000000 in
theorem dec_nn (n : Nat) (w : World) (hn : n ≤ 9223372036854775807) :
    Calls Tryz.prog 66 #[.int .i64 n] w fun e w' => e = .returned (str (digsN n)) ∧ Below w.heap.size w w' := by
  have h0 : ¬ (n : Int) < -9223372036854775807 := by omega
  have h1 : ¬ (n : Int) < 0 := by omega
  go_enter Tryz.func66, Tryz.ntmps66
  go_wp2
  go_loopw [0, 3] (fun a s w' => ∃ (m : Nat) (l : List UInt8), a = .int .i64 m ∧ s = str l ∧ m ≤ n ∧ Hid (digsN m ++ l = digsN n) ∧ Below w.heap.size w w') (fun a _ _ => (intOf a).toNat)
  case atStart => exact ⟨n, [], rfl, rfl, Nat.le_refl _, by simp [Hid], Below.refl _ _⟩
  case round =>
    obtain ⟨m, l, rfl, rfl, hm, hl, hb⟩ := hrel
    have hlen : l.length ≤ 19 := by
      have h1 := congrArg List.length hl.out
      have h2 := digsN_length 19 n (by omega) (by omega)
      simp at h1
      omega
    by_cases h9 : m < 10
    · have h2 : ¬ 9 < (m : Int) := by omega
      have hc := conv1 wr (48 + (m : Int))
      go_wp2
      go_ret
      refine ⟨ret_str ?_, hb.alloc hb.size _⟩
      rw [← hl.out, digsN_small h9, str_app [48 + UInt8.ofNat m] l]
      simp
    · have h2 : 9 < (m : Int) := by omega
      have hc := conv1 wr (48 + (m : Int) % 10)
      go_wp2
      refine ⟨⟨m / 10, (48 + UInt8.ofNat (m % 10)) :: l, by simp, ?_, by omega, ?_, hb.alloc hb.size _⟩, ?_⟩
      · exact congrArg Value.string (str_app [48 + UInt8.ofNat (m % 10)] l)
      · show digsN (m / 10) ++ (48 + UInt8.ofNat (m % 10)) :: l = digsN n
        rw [← hl.out, digsN_step h9]
        simp
      · simp [intOf]; omega

set_option maxRecDepth 100000 in
set_option maxHeartbeats 1000000 in
/-- The document's decimals. -/
theorem dec_any (n : Int) (w : World) (h1 : -9223372036854775808 ≤ n) (h2 : n ≤ 9223372036854775807) :
    Calls Tryz.prog 66 #[.int .i64 n] w fun e w' => e = .returned (str (decB n)) ∧ Below w.heap.size w w' := by
  by_cases hn : n < 0
  · by_cases hm : n < -9223372036854775807
    · have : n = -9223372036854775808 := by omega
      subst this
      have hd : Hid (decB (-9223372036854775808) = [45, 57, 50, 50, 51, 51, 55, 50, 48, 51, 54, 56, 53, 52, 55, 55, 53, 56, 48, 56]) := by
        simp [Hid, decB, digsN]
      go_enter Tryz.func66, Tryz.ntmps66
      go_wp2
      go_ret
      exact ⟨by rw [hd.out]; rfl, Below.refl _ _⟩
    · obtain ⟨m, hm2⟩ : ∃ m : Nat, -n = (m : Int) := ⟨(-n).toNat, by omega⟩
      have hd : Hid (decB n = 45 :: digsN m) := by rw [Hid, decB, if_pos hn, hm2]; rfl
      have hm3 : m ≤ 9223372036854775807 := by omega
      obtain rfl : n = -(m : Int) := by omega
      clear hm2
      go_enter Tryz.func66, Tryz.ntmps66
      go_wp2_with fail
      refine (dec_nn m _ hm3).mono ?_
      rintro e w1 ⟨rfl, hb⟩
      have hl := digsN_length 19 m (by omega) (by omega)
      go_wp2
      go_ret
      refine ⟨ret_str ?_, hb⟩
      rw [hd.out]
      exact str_app [45] (digsN m)
  · obtain ⟨m, rfl⟩ : ∃ m : Nat, n = (m : Int) := ⟨n.toNat, by omega⟩
    have hd : decB (m : Int) = digsN m := by rw [decB, if_neg hn]; rfl
    rw [hd]
    exact dec_nn m w (by omega)
end Go.Proofs.YthdlkpgialmlfaaGreatDoor
