/- Texts: the program's TextState is the document's. -/
import Derived.Test.YtoceohacplmgnaaDoorWj
namespace Go.Proofs.YtoceohacplmgnaaDoor
open Go.RowKit

theorem inter_flat : ∀ (r : List (List UInt8)) (h : List UInt8), [10].intercalate (h :: r) = h ++ (r.map (fun x => 10 :: x)).flatten
  | [], h => by simp [List.intercalate]
  | x :: r, h => by
    have e : [10].intercalate (h :: x :: r) = h ++ 10 :: [10].intercalate (x :: r) := by simp [List.intercalate, List.intersperse]
    rw [e, inter_flat r x]
    simp
theorem line_nums : ∀ (ns : List Int) (wd : List UInt8), 1 ≤ ns.length → ns.length ≤ 8 → lineB wd ns = wd ++ 32 :: numsB ns := by
  intro ns wd h1 h2
  rcases ns with _ | ⟨a, _ | ⟨b, _ | ⟨c, _ | ⟨d, _ | ⟨e, _ | ⟨f, _ | ⟨g, _ | ⟨h, _ | ⟨i, r⟩⟩⟩⟩⟩⟩⟩⟩⟩
  · simp at h1
  all_goals first
    | (simp [lineB, lineP, List.intercalate, List.intersperse, numsB, numsP]; done)
    | (simp at h2; done)
    | (simp at h2; omega)
theorem wkT_eq (x : Ws) : 10 :: wkT x = workSB x := by rw [wkT, line_nums _ _ (by simp) (by simp)]; rfl
theorem gpT_eq (x : Gs) : 10 :: gpT x = groupSB x := by rw [gpT, line_nums _ _ (by simp) (by simp)]; rfl
theorem ndT_eq (x : Nd) : 10 :: ndT x = nodeSB x := by rw [ndT, line_nums _ _ (by simp) (by simp)]; rfl
theorem pdT_eq (x : Pd) : 10 :: pdT x = podSB x := by rw [pdT, line_nums _ _ (by simp) (by simp)]; rfl
theorem hdT_eq (s : St) : hdT s = st0 s := by rw [hdT, line_nums _ _ (by simp) (by simp)]; rfl
theorem tx_stateB (s : St) : [10].intercalate (tx4 s s.pods.length) = stateB s := by
  rw [tx4, tx3, tx2, tx1, List.cons_append, List.cons_append, List.cons_append, inter_flat, hdT_eq]
  simp only [List.take_length, List.map_append, List.flatten_append, List.map_map, Function.comp_def, wkT_eq, gpT_eq, ndT_eq, pdT_eq]
  simp only [stateB, st4, st3, st2, st1, List.take_length, List.append_assoc]
/-- The program's TextState. -/
theorem textState_any (v : Value) (s : St) (w : World) (h : StateAt w v s) (hI : StI s) (hT : Tab w) :
    Calls Tryd.prog 16 #[v] w fun e w' => e = .returned (str (stateB s)) ∧ Below w.heap.size w w' := by
  rw [← tx_stateB]
  exact textState_lines v s w h hI hT
end Go.Proofs.YtoceohacplmgnaaDoor
