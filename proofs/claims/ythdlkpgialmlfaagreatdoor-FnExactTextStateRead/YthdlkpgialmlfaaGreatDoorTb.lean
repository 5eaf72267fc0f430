/- Texts: numbers with spaces between, as the document writes them. -/
import Derived.Test.YthdlkpgialmlfaaGreatDoorTa
namespace Go.Proofs.YthdlkpgialmlfaaGreatDoor
open Go.RowKit

/-- A number that an int can hold. -/
def I64 (n : Int) : Prop := -9223372036854775808 ≤ n ∧ n ≤ 9223372036854775807
theorem decB_length {n : Int} (h : I64 n) : (decB n).length ≤ 20 := by
  unfold decB
  split
  · have := digsN_length 19 (-n).toNat (by have := h.1; omega) (by omega)
    simp
    omega
  · have := digsN_length 19 n.toNat (by have := h.2; omega) (by omega)
    omega
/-- The first k numbers of a list with spaces between. -/
def numsP (l : List Int) : Nat → List UInt8
  | 0 => []
  | k + 1 => numsP l k ++ (if k = 0 then [] else [32]) ++ decB (l[k]?.getD 0)
def numsB (l : List Int) : List UInt8 := numsP l l.length
theorem numsP_length (l : List Int) (h : ∀ x ∈ l, I64 x) : ∀ k, k ≤ l.length → (numsP l k).length ≤ 21 * k
  | 0, _ => by simp [numsP]
  | k + 1, hk => by
    have h1 := numsP_length l h k (by omega)
    have h2 := decB_length (h l[k] (List.getElem_mem (by omega)))
    have h3 : l[k]?.getD 0 = l[k] := by simp [show k < l.length by omega]
    simp only [numsP, List.length_append, h3]
    split <;> simp <;> omega
/-- A list of numbers in memory. -/
def IntsAt (w : World) (a : Option Addr) (l : List Int) : Prop :=
  l = [] ∨ ∃ b o, a = some ⟨b, o, none⟩ ∧ b < w.heap.size ∧ ∀ i (h : i < l.length), w.cell? ⟨b, o + i, none⟩ = some (.int .i64 l[i])
theorem below_cell {w w' : World} (hb : Below w.heap.size w w') {b o : Nat} (h : b < w.heap.size) : w'.cell? ⟨b, o, none⟩ = w.cell? ⟨b, o, none⟩ := hb.cell (p := ⟨b, o, none⟩) h
theorem IntsAt.keep {w w' : World} {a : Option Addr} {l : List Int} (h : IntsAt w a l) (hb : Below w.heap.size w w') : IntsAt w' a l := by
  rcases h with h | ⟨b, o, ha, hl, hc⟩
  · exact .inl h
  · exact .inr ⟨b, o, ha, Nat.lt_of_lt_of_le hl hb.size, fun i h => by rw [below_cell hb hl]; exact hc i h⟩
theorem IntsAt.at {w : World} {a : Option Addr} {l : List Int} (h : IntsAt w a l) (i : Nat) (hi : i < l.length) :
    ∃ b o, a = some ⟨b, o, none⟩ ∧ b < w.heap.size ∧ w.cell? ⟨b, o + i, none⟩ = some (.int .i64 l[i]) := by
  rcases h with h | ⟨b, o, ha, hl, hc⟩
  · subst h; simp at hi
  · exact ⟨b, o, ha, hl, hc i hi⟩

theorem hid {p : Prop} (h : p) : Hid p := h
theorem bel_tr {W w1 w2 : World} (h1 : Below W.heap.size W w1) (h2 : Below w1.heap.size w1 w2) : Below W.heap.size W w2 := h1.trans (h2.mono h1.size)

set_option maxRecDepth 100000 in
set_option maxHeartbeats 1000000 in
/-- The document's numbers with spaces between. -/
theorem nums_any (a : Option Addr) (len cap : Nat) (l : List Int) (w : World) (hlen : l.length = len) (hn : len ≤ 100000) (hl : IntsAt w a l) (hr : ∀ x ∈ l, I64 x) :
    Calls Tryz.prog 45 #[.slice a len cap] w fun e w' => e = .returned (str (numsB l)) ∧ Below w.heap.size w w' := by
  have HL := hid hl
  have HN := hid hlen
  have HR := hid hr
  clear hl hlen hr
  go_enter Tryz.func45, Tryz.ntmps45
  go_wp2
  go_loopw [3, 4] (fun s i w' => ∃ k : Nat, k ≤ len ∧ i = .int .i64 k ∧ s = str (numsP l k) ∧ Below w.heap.size w w') (fun _ i _ => len - (intOf i).toNat)
  case atStart => exact ⟨0, Nat.zero_le _, rfl, rfl, Below.refl _ _⟩
  case round =>
    obtain ⟨k, hk, rfl, rfl, hb⟩ := hrel
    have hL := numsP_length l HR.out k (by rw [HN.out]; exact hk)
    have hL2 : (numsP l k).length ≤ 2100000 := by omega
    by_cases hlt : k < len
    · have hkl : k < l.length := by rw [HN.out]; exact hlt
      obtain ⟨b, o, ha, hbl, c0⟩ := (HL.out.keep hb).at k hkl
      subst ha
      have hk0 : (0 : Int) ≤ (k : Int) := by omega
      have hkn : (k : Int) < (len : Int) := by omega
      obtain ⟨r1, r2⟩ := HR.out l[k] (List.getElem_mem hkl)
      have hD := decB_length ⟨r1, r2⟩
      have HS : Hid (numsP l (k + 1) = numsP l k ++ (if k = 0 then [] else [32]) ++ decB l[k]) := by simp [Hid, numsP, hkl]
      by_cases h0 : k = 0
      · subst h0
        replace c0 : wr.cell? ⟨b, o, none⟩ = some (.int .i64 l[0]) := c0
        go_wp2_with fail
        refine (dec_any l[0] _ r1 r2).mono ?_
        rintro e w2 ⟨rfl, hb2⟩
        go_wp2
        go_roundw
        case rel =>
          refine ⟨1, by omega, by go_num, ?_, bel_tr hb hb2⟩
          rw [HS.out]
          exact congrArg Value.string (str_app (numsP l 0) (decB l[0]))
        case measure => simp [intOf]; omega
      · have h0' : (0 : Int) < (k : Int) := by omega
        go_wp2_with fail
        refine (dec_any l[k] _ r1 r2).mono ?_
        rintro e w2 ⟨rfl, hb2⟩
        go_wp2
        go_roundw
        case rel =>
          refine ⟨k + 1, by omega, by go_num, ?_, bel_tr hb hb2⟩
          rw [HS.out, if_neg h0, str, ← str_app, ← str_app]
        case measure => simp [intOf]; omega
    · have hkk : k = len := by omega
      have hkk2 : ¬ (k : Int) < (len : Int) := by omega
      go_wp2
      go_ret
      subst hkk
      exact ⟨by rw [numsB, HN.out]; rfl, hb⟩
end Go.Proofs.YthdlkpgialmlfaaGreatDoor
