/- Texts: a number, as the document reads it. -/
import Derived.Test.YthdlkpgialmlfaaGreatDoorTf
namespace Go.Proofs.YthdlkpgialmlfaaGreatDoor
open Go.RowKit

def isDig (b : UInt8) : Bool := decide (48 ≤ b.toNat ∧ b.toNat ≤ 57)
def valN (l : List UInt8) : Nat := l.foldl (fun n b => n * 10 + (b.toNat - 48)) 0
def badN (neg : Bool) (t : List UInt8) : Bool := decide (t = []) || decide (17 < t.length) || (decide (t.head? = some 48) && (decide (1 < t.length) || neg))
def absOf (neg : Bool) (t : List UInt8) : Option Nat := if badN neg t then none else if t.all isDig then some (valN t) else none
def numOf (s : List UInt8) : Option Int := if s.head? = some 45 then Option.map (fun n : Nat => -(n : Int)) (absOf true s.tail) else Option.map (fun n : Nat => (n : Int)) (absOf false s)

theorem valN_snoc (l : List UInt8) (b : UInt8) : valN (l ++ [b]) = valN l * 10 + (b.toNat - 48) := by simp [valN]
theorem valN_take (l : List UInt8) (k : Nat) (h : k < l.length) : valN (l.take (k + 1)) = valN (l.take k) * 10 + (l[k].toNat - 48) := by
  rw [List.take_succ_eq_append_getElem h, valN_snoc]
theorem valN_lt (l : List UInt8) : ∀ k, k ≤ l.length → (l.take k).all isDig = true → valN (l.take k) < 10 ^ k
  | 0, _, _ => by simp [valN]
  | k + 1, hk, h => by
    rw [List.take_succ_eq_append_getElem (by omega), List.all_append, Bool.and_eq_true] at h
    have h1 := valN_lt l k (by omega) h.1
    have h2 := h.2
    simp only [List.all_cons, List.all_nil, Bool.and_true, isDig, decide_eq_true_eq] at h2
    rw [valN_take l k (by omega), Nat.pow_succ]
    omega
theorem all_take_succ (l : List UInt8) (k : Nat) (h : k < l.length) (ha : (l.take k).all isDig = true) (hd : isDig l[k] = true) : (l.take (k + 1)).all isDig = true := by
  rw [List.take_succ_eq_append_getElem h, List.all_append, ha]
  simp [hd]
theorem not_all (l : List UInt8) (k : Nat) (h : k < l.length) (hd : isDig l[k] = false) : l.all isDig = false := by
  rw [List.all_eq_false]
  exact ⟨l[k], List.getElem_mem h, by simp [hd]⟩
theorem u8_eqb {a : UInt8} (h : a = 48) : ((a.toNat : Int) == 48) = true := by subst h; rfl
theorem u8_neb {a b : UInt8} (h : ¬ a = b) : ((a.toNat : Int) == (b.toNat : Int)) = false := by
  rw [beq_eq_false_iff_ne]
  intro e
  exact h (UInt8.toNat.inj (by omega))

set_option maxRecDepth 100000 in
set_option maxHeartbeats 2000000 in
theorem num_pos (b : UInt8) (r : List UInt8) (w : World) (hb : ¬ b = 45) (h17 : r.length < 17) (hB : badN false (b :: r) = false) :
    Calls Tryz.prog 44 #[str (b :: r)] w fun e w' => e = .returned (.tuple #[.int .i64 ((numOf (b :: r)).getD 0), .bool (numOf (b :: r)).isSome]) ∧ w' = w := by
  have HB := hid hB
  have HS : Hid (numOf (b :: r) = Option.map (fun n : Nat => (n : Int)) (absOf false (b :: r))) := by simp [Hid, numOf, hb]
  have b45 : ((b.toNat : Int) == 45) = false := u8_neb (b := 45) hb
  have hg0 : ∀ h, (ByteArray.mk (b :: r).toArray)[0]'h = b := fun _ => rfl
  have hl : ((b :: r).length : Int) = (r.length : Int) + 1 := by simp
  have c17 : ¬ (17 : Int) < (r.length : Int) + 1 := by omega
  by_cases h48 : b = 48
  · have b48 := u8_eqb h48
    have c1 : ¬ (1 : Int) < (r.length : Int) + 1 := by
      cases r with
      | nil => simp
      | cons x y => simp [badN, h48] at hB
    clear hb h48 hB
    go_enter Tryz.func44, Tryz.ntmps44
    go_wp2
    go_loopw [5, 6] (fun n i w' => ∃ k : Nat, k ≤ (b :: r).length ∧ i = .int .i64 k ∧ n = .int .i64 (valN ((b :: r).take k) : Nat) ∧ Hid (((b :: r).take k).all isDig = true) ∧ w' = w) (fun _ i _ => (b :: r).length - (intOf i).toNat)
    case atStart => exact ⟨0, Nat.zero_le _, rfl, rfl, rfl, rfl⟩
    case round =>
      obtain ⟨k, hk, rfl, rfl, hd, rfl⟩ := hrel
      have hv := valN_lt (b :: r) k hk hd.out
      have hp : 10 ^ k ≤ 10 ^ 17 := Nat.pow_le_pow_right (by omega) (by simp at hk; omega)
      have hv2 : valN ((b :: r).take k) ≤ 100000000000000000 := by omega
      clear hv hp
      by_cases hlt : k < (b :: r).length
      · have hk0 : (0 : Int) ≤ (k : Int) := by omega
        have hkn : (k : Int) < ((b :: r).length : Int) := by omega
        have hVN := hid (valN_take (b :: r) k hlt)
        have HALL := hid (fun h => not_all (b :: r) k hlt h)
        have HNX := hid (fun h => all_take_succ (b :: r) k hlt hd.out h)
        have hxb : (b :: r)[k].toNat < 256 := UInt8.toNat_lt _
        have hget : ∀ h, (ByteArray.mk (b :: r).toArray)[k]'h = (b :: r)[k] := fun h => ba_get (b :: r) k h
        by_cases lo : (b :: r)[k].toNat < 48
        · have lo' : ((b :: r)[k].toNat : Int) < 48 := by omega
          have hno : Hid (numOf (b :: r) = none) := by
            have := HALL.out (by simp [isDig]; omega)
            rw [Hid, HS.out, absOf, HB.out, this]
            rfl
          go_wp2
          go_ret2
          exact ⟨by rw [hno.out]; rfl, rfl⟩
        · have lo' : ¬ ((b :: r)[k].toNat : Int) < 48 := by omega
          by_cases hi : 57 < (b :: r)[k].toNat
          · have hi' : (57 : Int) < ((b :: r)[k].toNat : Int) := by omega
            have hno : Hid (numOf (b :: r) = none) := by
              have := HALL.out (by simp [isDig]; omega)
              rw [Hid, HS.out, absOf, HB.out, this]
              rfl
            go_wp2
            go_ret2
            exact ⟨by rw [hno.out]; rfl, rfl⟩
          · have hi' : ¬ (57 : Int) < ((b :: r)[k].toNat : Int) := by omega
            have HN2 := hid (HNX.out (by simp [isDig]; omega))
            clear HNX HALL
            have hnew : ((valN ((b :: r).take (k + 1)) : Nat) : Int) = (valN ((b :: r).take k) : Int) * 10 + (((b :: r)[k].toNat : Int) - 48) := by rw [hVN.out]; omega
            have HNW := hid hnew.symm
            clear hnew
            go_wp2
            refine ⟨⟨k + 1, by omega, by simp, congrArg (Value.int .i64) HNW.out, HN2, trivial⟩, ?_⟩
            simp [intOf]
            omega
      · have hkk : k = (b :: r).length := by omega
        have hkn : ¬ (k : Int) < ((b :: r).length : Int) := by omega
        have hall : (b :: r).all isDig = true := by have := hd.out; rwa [hkk, List.take_length] at this
        have hyes : Hid (numOf (b :: r) = some ((valN (b :: r) : Int))) := by
          rw [Hid, HS.out, absOf, HB.out, hall]
          rfl
        have htk : Hid (valN ((b :: r).take k) = valN (b :: r)) := by rw [Hid, hkk, List.take_length]
        clear hkk hall
        go_wp2
        go_ret2
        refine ⟨?_, rfl⟩
        rw [hyes.out]
        show Ending.returned (.tuple #[.int .i64 ((valN ((b :: r).take k) : Nat)), .bool true]) = _
        rw [htk.out]
        rfl
  · have b48 : ((b.toNat : Int) == 48) = false := u8_neb (b := 48) h48
    clear hb h48 hB
    go_enter Tryz.func44, Tryz.ntmps44
    go_wp2
    go_loopw [5, 6] (fun n i w' => ∃ k : Nat, k ≤ (b :: r).length ∧ i = .int .i64 k ∧ n = .int .i64 (valN ((b :: r).take k) : Nat) ∧ Hid (((b :: r).take k).all isDig = true) ∧ w' = w) (fun _ i _ => (b :: r).length - (intOf i).toNat)
    case atStart => exact ⟨0, Nat.zero_le _, rfl, rfl, rfl, rfl⟩
    case round =>
      obtain ⟨k, hk, rfl, rfl, hd, rfl⟩ := hrel
      have hv := valN_lt (b :: r) k hk hd.out
      have hp : 10 ^ k ≤ 10 ^ 17 := Nat.pow_le_pow_right (by omega) (by simp at hk; omega)
      have hv2 : valN ((b :: r).take k) ≤ 100000000000000000 := by omega
      clear hv hp
      by_cases hlt : k < (b :: r).length
      · have hk0 : (0 : Int) ≤ (k : Int) := by omega
        have hkn : (k : Int) < ((b :: r).length : Int) := by omega
        have hVN := hid (valN_take (b :: r) k hlt)
        have HALL := hid (fun h => not_all (b :: r) k hlt h)
        have HNX := hid (fun h => all_take_succ (b :: r) k hlt hd.out h)
        have hxb : (b :: r)[k].toNat < 256 := UInt8.toNat_lt _
        have hget : ∀ h, (ByteArray.mk (b :: r).toArray)[k]'h = (b :: r)[k] := fun h => ba_get (b :: r) k h
        by_cases lo : (b :: r)[k].toNat < 48
        · have lo' : ((b :: r)[k].toNat : Int) < 48 := by omega
          have hno : Hid (numOf (b :: r) = none) := by
            have := HALL.out (by simp [isDig]; omega)
            rw [Hid, HS.out, absOf, HB.out, this]
            rfl
          go_wp2
          go_ret2
          exact ⟨by rw [hno.out]; rfl, rfl⟩
        · have lo' : ¬ ((b :: r)[k].toNat : Int) < 48 := by omega
          by_cases hi : 57 < (b :: r)[k].toNat
          · have hi' : (57 : Int) < ((b :: r)[k].toNat : Int) := by omega
            have hno : Hid (numOf (b :: r) = none) := by
              have := HALL.out (by simp [isDig]; omega)
              rw [Hid, HS.out, absOf, HB.out, this]
              rfl
            go_wp2
            go_ret2
            exact ⟨by rw [hno.out]; rfl, rfl⟩
          · have hi' : ¬ (57 : Int) < ((b :: r)[k].toNat : Int) := by omega
            have HN2 := hid (HNX.out (by simp [isDig]; omega))
            clear HNX HALL
            have hnew : ((valN ((b :: r).take (k + 1)) : Nat) : Int) = (valN ((b :: r).take k) : Int) * 10 + (((b :: r)[k].toNat : Int) - 48) := by rw [hVN.out]; omega
            have HNW := hid hnew.symm
            clear hnew
            go_wp2
            refine ⟨⟨k + 1, by omega, by simp, congrArg (Value.int .i64) HNW.out, HN2, trivial⟩, ?_⟩
            simp [intOf]
            omega
      · have hkk : k = (b :: r).length := by omega
        have hkn : ¬ (k : Int) < ((b :: r).length : Int) := by omega
        have hall : (b :: r).all isDig = true := by have := hd.out; rwa [hkk, List.take_length] at this
        have hyes : Hid (numOf (b :: r) = some ((valN (b :: r) : Int))) := by
          rw [Hid, HS.out, absOf, HB.out, hall]
          rfl
        have htk : Hid (valN ((b :: r).take k) = valN (b :: r)) := by rw [Hid, hkk, List.take_length]
        clear hkk hall
        go_wp2
        go_ret2
        refine ⟨?_, rfl⟩
        rw [hyes.out]
        show Ending.returned (.tuple #[.int .i64 ((valN ((b :: r).take k) : Nat)), .bool true]) = _
        rw [htk.out]
        rfl

set_option maxRecDepth 100000 in
set_option maxHeartbeats 2000000 in
theorem num_neg (b : UInt8) (r : List UInt8) (w : World) (h17 : r.length < 17) (hB : badN true (b :: r) = false) :
    Calls Tryz.prog 44 #[str (45 :: b :: r)] w fun e w' => e = .returned (.tuple #[.int .i64 ((numOf (45 :: b :: r)).getD 0), .bool (numOf (45 :: b :: r)).isSome]) ∧ w' = w := by
  have HB := hid hB
  have HS : Hid (numOf (45 :: b :: r) = Option.map (fun n : Nat => -(n : Int)) (absOf true (b :: r))) := by simp [Hid, numOf]
  have hx1 : (ByteArray.mk (45 :: b :: r).toArray).extract 1 (r.length + 1 + 1) = ⟨(b :: r).toArray⟩ := by rw [ByteArray.extract_mk]; simp
  have hg0 : ∀ h, (ByteArray.mk (b :: r).toArray)[0]'h = b := fun _ => rfl
  have hg1 : ∀ h, (ByteArray.mk (45 :: b :: r).toArray)[0]'h = 45 := fun _ => rfl
  have hl : ((b :: r).length : Int) = (r.length : Int) + 1 := by simp
  have c17 : ¬ (17 : Int) < (r.length : Int) + 1 := by omega
  have h48 : ¬ b = 48 := by intro h; simp [badN, h] at hB
  have b48 : ((b.toNat : Int) == 48) = false := u8_neb (b := 48) h48
  clear h48 hB
  go_enter Tryz.func44, Tryz.ntmps44
  go_wp2
  go_loopw [5, 6] (fun n i w' => ∃ k : Nat, k ≤ (b :: r).length ∧ i = .int .i64 k ∧ n = .int .i64 (valN ((b :: r).take k) : Nat) ∧ Hid (((b :: r).take k).all isDig = true) ∧ w' = w) (fun _ i _ => (b :: r).length - (intOf i).toNat)
  case atStart => exact ⟨0, Nat.zero_le _, rfl, rfl, rfl, rfl⟩
  case round =>
    obtain ⟨k, hk, rfl, rfl, hd, rfl⟩ := hrel
    have hv := valN_lt (b :: r) k hk hd.out
    have hp : 10 ^ k ≤ 10 ^ 17 := Nat.pow_le_pow_right (by omega) (by simp at hk; omega)
    have hv2 : valN ((b :: r).take k) ≤ 100000000000000000 := by omega
    clear hv hp
    by_cases hlt : k < (b :: r).length
    · have hk0 : (0 : Int) ≤ (k : Int) := by omega
      have hkn : (k : Int) < ((b :: r).length : Int) := by omega
      have hVN := hid (valN_take (b :: r) k hlt)
      have HALL := hid (fun h => not_all (b :: r) k hlt h)
      have HNX := hid (fun h => all_take_succ (b :: r) k hlt hd.out h)
      have hxb : (b :: r)[k].toNat < 256 := UInt8.toNat_lt _
      have hget : ∀ h, (ByteArray.mk (b :: r).toArray)[k]'h = (b :: r)[k] := fun h => ba_get (b :: r) k h
      by_cases lo : (b :: r)[k].toNat < 48
      · have lo' : ((b :: r)[k].toNat : Int) < 48 := by omega
        have hno : Hid (numOf (45 :: b :: r) = none) := by
          have := HALL.out (by simp [isDig]; omega)
          rw [Hid, HS.out, absOf, HB.out, this]
          rfl
        go_wp2
        go_ret2
        exact ⟨by rw [hno.out]; rfl, rfl⟩
      · have lo' : ¬ ((b :: r)[k].toNat : Int) < 48 := by omega
        by_cases hi : 57 < (b :: r)[k].toNat
        · have hi' : (57 : Int) < ((b :: r)[k].toNat : Int) := by omega
          have hno : Hid (numOf (45 :: b :: r) = none) := by
            have := HALL.out (by simp [isDig]; omega)
            rw [Hid, HS.out, absOf, HB.out, this]
            rfl
          go_wp2
          go_ret2
          exact ⟨by rw [hno.out]; rfl, rfl⟩
        · have hi' : ¬ (57 : Int) < ((b :: r)[k].toNat : Int) := by omega
          have HN2 := hid (HNX.out (by simp [isDig]; omega))
          clear HNX HALL
          have hnew : ((valN ((b :: r).take (k + 1)) : Nat) : Int) = (valN ((b :: r).take k) : Int) * 10 + (((b :: r)[k].toNat : Int) - 48) := by rw [hVN.out]; omega
          have HNW := hid hnew.symm
          clear hnew
          go_wp2
          refine ⟨⟨k + 1, by omega, by simp, congrArg (Value.int .i64) HNW.out, HN2, trivial⟩, ?_⟩
          simp [intOf]
          omega
    · have hkk : k = (b :: r).length := by omega
      have hkn : ¬ (k : Int) < ((b :: r).length : Int) := by omega
      have hall : (b :: r).all isDig = true := by have := hd.out; rwa [hkk, List.take_length] at this
      have hyes : Hid (numOf (45 :: b :: r) = some (-(valN (b :: r) : Int))) := by
        rw [Hid, HS.out, absOf, HB.out, hall]
        rfl
      have htk : Hid (valN ((b :: r).take k) = valN (b :: r)) := by rw [Hid, hkk, List.take_length]
      clear hkk hall
      go_wp2
      go_ret2
      refine ⟨?_, rfl⟩
      rw [hyes.out]
      show Ending.returned (.tuple #[.int .i64 (-((valN ((b :: r).take k) : Nat) : Int)), .bool true]) = _
      rw [htk.out]
      rfl

set_option maxRecDepth 100000 in
set_option maxHeartbeats 2000000 in
/-- The document's numbers. -/
theorem num_any (s : List UInt8) (w : World) (_h : s.length ≤ 9000000000000) :
    Calls Tryz.prog 44 #[str s] w fun e w' => e = .returned (.tuple #[.int .i64 ((numOf s).getD 0), .bool (numOf s).isSome]) ∧ w' = w := by
  match s with
  | [] =>
    have hno : Hid (numOf [] = none) := by simp [Hid, numOf, absOf, badN]
    go_enter Tryz.func44, Tryz.ntmps44
    go_wp2
    go_ret2
    exact ⟨by rw [hno.out]; rfl, rfl⟩
  | b :: r =>
    by_cases hb : b = 45
    · subst hb
      match r with
      | [] =>
        have hno : Hid (numOf [45] = none) := by simp [Hid, numOf, absOf, badN]
        have hx1 : (ByteArray.mk [45].toArray).extract 1 1 = ⟨([] : List UInt8).toArray⟩ := by rw [ByteArray.extract_mk]; simp
        have hg1 : ∀ h, (ByteArray.mk [45].toArray)[0]'h = 45 := fun _ => rfl
        go_enter Tryz.func44, Tryz.ntmps44
        go_wp2
        go_ret2
        exact ⟨by rw [hno.out]; rfl, rfl⟩
      | b :: r =>
        cases hB : badN true (b :: r)
        · exact num_neg b r w (by simp [badN] at hB; omega) hB
        · have hno : Hid (numOf (45 :: b :: r) = none) := by simp [Hid, numOf, absOf, hB]
          have hx1 : (ByteArray.mk (45 :: b :: r).toArray).extract 1 (r.length + 1 + 1) = ⟨(b :: r).toArray⟩ := by rw [ByteArray.extract_mk]; simp
          have hg0 : ∀ h, (ByteArray.mk (b :: r).toArray)[0]'h = b := fun _ => rfl
          have hg1 : ∀ h, (ByteArray.mk (45 :: b :: r).toArray)[0]'h = 45 := fun _ => rfl
          by_cases c17 : (17 : Int) < (r.length : Int) + 1
          · clear hB
            go_enter Tryz.func44, Tryz.ntmps44
            go_wp2
            go_ret2
            exact ⟨by rw [hno.out]; rfl, rfl⟩
          · have h48 : b = 48 := by
              have : 17 < r.length + 1 ∨ b = 48 := by simpa [badN] using hB
              rcases this with h | h
              · omega
              · exact h
            have b48 := u8_eqb h48
            by_cases c1 : (1 : Int) < (r.length : Int) + 1
            · clear hB h48
              go_enter Tryz.func44, Tryz.ntmps44
              go_wp2
              go_ret2
              exact ⟨by rw [hno.out]; rfl, rfl⟩
            · clear hB h48
              go_enter Tryz.func44, Tryz.ntmps44
              go_wp2
              go_ret2
              exact ⟨by rw [hno.out]; rfl, rfl⟩
    · cases hB : badN false (b :: r)
      · exact num_pos b r w hb (by simp [badN] at hB; omega) hB
      · have hno : Hid (numOf (b :: r) = none) := by simp [Hid, numOf, absOf, hB, hb]
        have b45 : ((b.toNat : Int) == 45) = false := u8_neb (b := 45) hb
        have hg0 : ∀ h, (ByteArray.mk (b :: r).toArray)[0]'h = b := fun _ => rfl
        clear hb
        by_cases c17 : (17 : Int) < (r.length : Int) + 1
        · clear hB
          go_enter Tryz.func44, Tryz.ntmps44
          go_wp2
          go_ret2
          exact ⟨by rw [hno.out]; rfl, rfl⟩
        · have h48 : b = 48 ∧ 0 < r.length := by
            have : 17 < r.length + 1 ∨ (b = 48 ∧ 0 < r.length) := by simpa [badN] using hB
            rcases this with h | h
            · omega
            · exact h
          have b48 := u8_eqb h48.1
          have c1 : (1 : Int) < (r.length : Int) + 1 := by have := h48.2; omega
          clear hB h48
          go_enter Tryz.func44, Tryz.ntmps44
          go_wp2
          go_ret2
          exact ⟨by rw [hno.out]; rfl, rfl⟩
end Go.Proofs.YthdlkpgialmlfaaGreatDoor
