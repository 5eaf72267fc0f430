/- The two draws of the laws over what is asked. -/
import Derived.Test.YtifijknogofklaaDe
import Derived.Test.YtifijknogofklaaL
namespace Go.Proofs.Ytifijknogofklaa
open Go.RowKit

theorem lit7d : ∀ i, i < 7 → ∃ v, (#[Value.int .i64 0, .int .i64 0, .int .i64 1, .int .i64 5, .int .i64 100, .int .i64 101, .int .i64 (-1)] : Array Value)[i]? = some (.int .i64 v) ∧ -1 ≤ v ∧ v ≤ 101 := by
  intro i hi
  match i, hi with
  | 0, _ => exact ⟨_, rfl, by omega, by omega⟩
  | 1, _ => exact ⟨_, rfl, by omega, by omega⟩
  | 2, _ => exact ⟨_, rfl, by omega, by omega⟩
  | 3, _ => exact ⟨_, rfl, by omega, by omega⟩
  | 4, _ => exact ⟨_, rfl, by omega, by omega⟩
  | 5, _ => exact ⟨_, rfl, by omega, by omega⟩
  | 6, _ => exact ⟨_, rfl, by omega, by omega⟩
theorem Bytes.rd {W : World} {xa : Option Addr} {len cap : Nat} {f : Nat → Int} (h : Bytes W xa len cap f) (c : Nat) : Rd (W.alloc (.cells #[.slice xa (min len 2000) c, .int .i64 0] 103)) W.heap.size 0 := ⟨_, _, _, _, 0, h.reader c, by omega, by omega⟩
theorem open_rd (xa : Option Addr) (len cap : Nat) (f : Nat → Int) (W : World) (h : Bytes W xa len cap f) :
    Calls Try.prog 20 #[.slice xa len cap] W fun e w' => ∃ r, e = .returned (.pointer (some ⟨r, 0, none⟩)) ∧ r = W.heap.size ∧ Rd w' r 0 ∧ Below W.heap.size W w' ∧ r < w'.heap.size := by
  refine (open_any xa len cap W h.1 h.2.1).mono ?_
  rintro e w' ⟨rfl, c, rfl⟩
  exact ⟨_, rfl, rfl, h.rd c, by go_grown, (h.rd c).lt⟩
end Go.Proofs.Ytifijknogofklaa
