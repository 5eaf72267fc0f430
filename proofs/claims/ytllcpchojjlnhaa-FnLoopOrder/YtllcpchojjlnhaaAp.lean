/- slices.AppendSeq, slices.Collect over the iterator of kinds; the program's LoopOrder. -/
import Derived.Test.YtllcpchojjlnhaaIt
import Derived.Maps.AppendAt
namespace Go.Proofs.Ytllcpchojjlnhaa
open Go.RowKit Go.Sort Go.Shelf Go.Maps
attribute [local go_sem] Oper.semAt_some

def apAssign : Code := (Code.region 2 #[{ dst := some 5, op := Op.assign (Operand.tmp 7), type := 3, pos := "iter.go:51", after := #[], guard := none }] false)
def apBody : Code := (Code.block 1 (Code.region 3 #[{ dst := some 8, op := Op.load 24 (Operand.tmp 2), type := 24, pos := "iter.go:52", after := #[], guard := none }, { dst := some 9, op := Op.move (Operand.tmp 5), type := 3, pos := "iter.go:52", after := #[], guard := none }, { dst := some 10, op := Op.buildSlice 24 1 #[(0, Operand.tmp 9)], type := 24, pos := "iter.go:52", after := #[{ on := 1, ground := Ground.data }], guard := none }, { dst := some 11, op := Op.call { callee := Callee.builtin Builtin.append, args := #[Operand.tmp 8, Operand.tmp 10], argTypes := #[24, 24] }, type := 24, pos := "iter.go:52", after := #[{ on := 0, ground := Ground.data }, { on := 2, ground := Ground.data }], guard := none }, { dst := none, op := Op.store 24 (Operand.tmp 2) (Operand.tmp 11), type := 0, pos := "iter.go:52", after := #[{ on := 3, ground := Ground.data }, { on := 3, ground := Ground.chain }, { on := 0, ground := Ground.phase }, { on := 1, ground := Ground.phase }, { on := 2, ground := Ground.phase }, { on := 3, ground := Ground.phase }], guard := none }] false))
def apRec (fn : FuncId) (sv : Value) (Bs D : Nat) (st : LoopState) (pend : Option Code) : Loop :=
  { state := st, pending := pend, fn, tmps := #[.slice none 0 0, sv, .pointer (some ⟨Bs, 0, none⟩), undef, .slice none 0 0, undef, sv, undef, undef, undef, undef, undef, undef], params := #[7], assign := apAssign, body := apBody, defers := D }

def SameAt (K : Nat) (A B : World) : Prop := B.heap[K]? = A.heap[K]?
abbrev encZ' (x : Int) : Value := .int .i64 x

/-- Between two rounds: K is the block that the iterator writes. -/
structure ApAt (w0 : World) (fn : FuncId) (sv : Value) (Bs l D K : Nat) (ss : List Int) (W : World) : Prop where
  box : ∃ v, W.heap[Bs]? = some (.cells #[v] 24 (0, 0)) ∧ W.ownsRow (K + 1) 3 1 v ss.length (ss.map encZ')
  L : W.heap[l]? = some (.loop (apRec fn sv Bs D .ready none))
  D : W.heap[D]? = some (.deferred (some []))
  below : Below w0.heap.size w0 W

theorem row_ne {W : World} {base : Nat} {e : TypeId} {size : Nat} {v : Value} {k : Nat} {xs : List Value} (h : W.ownsRow base e size v k xs) {j : Nat} (hj : j < base) : v.ownBlock = none ∨ v.ownBlock ≠ some j := by
  rcases h.2 with ⟨rfl, _⟩ | ⟨g, cap, cur, rfl, hg, _⟩
  · exact .inl rfl
  · refine .inr fun e' => ?_
    have : g = j := by simpa [Value.ownBlock] using e'
    omega
theorem row_ne' {W : World} {base : Nat} {e : TypeId} {size : Nat} {v : Value} {k : Nat} {xs : List Value} (h : W.ownsRow base e size v k xs) {j : Nat} (hj : j < base) : some j ≠ v.ownBlock := fun e' => by
  rcases row_ne h hj with h1 | h1
  · rw [h1] at e'; cases e'
  · exact h1 e'.symm
theorem grown_put (W : World) (l : Nat) (o : Obj) : W.grownBy (W.putObj l o) (some l) :=
  ⟨rfl, rfl, rfl, by simp, fun k _ hk => World.putObj_heap_other (fun e => hk (by rw [e]))⟩
theorem row_base {W : World} {base base' : Nat} {e : TypeId} {size : Nat} {v : Value} {k : Nat} {xs : List Value} (h : W.ownsRow base e size v k xs) (hb : base' ≤ base) : W.ownsRow base' e size v k xs := by
  refine ⟨h.1, ?_⟩
  rcases h.2 with hn | ⟨g, cap, cur, hv, hbg, rest⟩
  · exact .inl hn
  · exact .inr ⟨g, cap, cur, hv, Nat.le_trans hb hbg, rest⟩

theorem ap_abides {w0 : World} {fn : FuncId} {sv : Value} {Bs l D K : Nat} (hB : Bs < K) (hl : l < K) (hD : D < K) (h0 : w0.heap.size ≤ K) (ss : List Int) (A B : World) (h : ApAt w0 fn sv Bs l D K ss A) (hg : A.grownBy B (some K)) : ApAt w0 fn sv Bs l D K ss B := by
  obtain ⟨v, hv, hr⟩ := h.box
  have ne : ∀ j, j < K → some j ≠ some K := fun j hj e => by cases e; omega
  refine ⟨⟨v, (hg.block Bs (Array.getElem?_eq_some_iff.1 hv).1 (ne _ hB)).trans hv, hr.kept hg ?_⟩, (hg.block l (Array.getElem?_eq_some_iff.1 h.L).1 (ne _ hl)).trans h.L, (hg.block D (Array.getElem?_eq_some_iff.1 h.D).1 (ne _ hD)).trans h.D, h.below.grown hg h.below.size (fun k e => by cases e; exact h0)⟩
  exact row_ne hr (by omega)

theorem info3 : (Try.prog.info? 3).map (fun i => (i.zero, i.size, i.bytes)) = some (some (.int .i64 0), 1, 8) := by kernel_rfl

set_option maxRecDepth 100000 in
set_option maxHeartbeats 2000000 in
theorem apYield (m : Nat) (w0 : World) (fn : FuncId) (sv : Value) (Bs l D K : Nat) (hDB : D < l) (hBD : Bs < D) (hlK : l < K) (h0B : w0.heap.size ≤ Bs)
    (ss : List Int) (x : Int) (W : World) (h : ApAt w0 fn sv Bs l D K ss W) (hK : K < W.heap.size) (hlen : ss.length < 6) :
    YieldAt Fence.wide m Try.prog l #[.int .i64 x] W fun e W' => e = .returned (.bool true) ∧ ApAt w0 fn sv Bs l D K (ss ++ [x]) W' ∧ SameAt K W W' := by
  obtain ⟨i0, hi, hz0, hz1, hz2⟩ := info_parts info3
  obtain ⟨v, hv, hrow⟩ := h.box
  refine ⟨fn, #[.slice none 0 0, sv, .pointer (some ⟨Bs, 0, none⟩), undef, .slice none 0 0, undef, sv, .int .i64 x, undef, undef, undef, undef, undef], apAssign, apBody, by simpa [apRec] using run_yield (P := Try.prog) (args := #[.int .i64 x]) h.L rfl, roundIn_of_wpIn trivial ?_⟩
  have hl : l < W.heap.size := (Array.getElem?_eq_some_iff.1 h.L).1
  have hbr := run_beginRound (P := Try.prog) h.L rfl
  obtain ⟨W2, hW2⟩ : ∃ W2, W.putObj l (.loop { apRec fn sv Bs D .ready none with state := .busy }) = W2 := ⟨_, rfl⟩
  rw [hW2] at hbr
  have hg2 : W.grownBy W2 (some l) := by rw [← hW2]; exact grown_put _ _ _
  have hv2 : Boxed W2 Bs 24 v := by rw [← hW2]; exact (World.putObj_heap_other (by omega)).trans hv
  have hD2 : W2.heap[D]? = some (.deferred (some [])) := by rw [← hW2]; exact (World.putObj_heap_other (by omega)).trans h.D
  have hL2 : W2.heap[l]? = some (.loop { apRec fn sv Bs D .ready none with state := .busy }) := by rw [← hW2]; exact World.putObj_heap_same hl
  have hrow2 : W2.ownsRow (K + 1) 3 1 v ss.length (ss.map encZ') := hrow.kept hg2 (row_ne hrow (by omega))
  have hb2 : Below w0.heap.size w0 W2 := h.below.grown hg2 h.below.size (fun k e => by cases e; omega)
  have hs2 : K < W2.heap.size := by rw [← hW2]; simpa using hK
  have hc2 := hv2.cell
  have hf2 := hv2.frozen
  clear hW2
  unfold apAssign
  gi_wp2
  unfold apBody
  gi_wp2_with (gi_at_builtin; refine wpListIn_append_own _ rfl _ _ 24 rfl (K + 1) 3 i0 (.int .i64 0) 1 8 Try.underlying24 hi hz0 hz1 hz2 rfl (by decide) _ _ _ rfl (hrow2.alloc _) ⟨W2.heap.size, 0, none⟩ 1 1 [.int .i64 x] rfl rfl (cell_one_new _ _ _) (by simp [Value.oneCell']) (by unfold maxLen; omega) (by omega) (by simp; omega) ?_; intro v' w3 hown' hg3 _; obtain ⟨g', cap', rfl⟩ := ownsRow_succ hown'; obtain ⟨hv3, hv4, _, _, hb4⟩ := hv2.appended (n₀ := w0.heap.size) (by decide) (row_base hrow2 (by omega)) hb2.size (by omega) (row_base hown' (by omega)) hg3; have hc3 := hv3.cell; have hf3 := hv3.frozen)
  have hv' := row_ne' hrow2 (j := l) (by omega)
  have hL3 : w3.heap[l]? = some (.loop { apRec fn sv Bs D .ready none with state := .busy }) := (hg3.block l (by simp; have := (Array.getElem?_eq_some_iff.1 hL2).1; omega) hv').trans ((Below.heap_alloc _ _ l (Array.getElem?_eq_some_iff.1 hL2).1).trans hL2)
  have hD3 : w3.heap[D]? = some (.deferred (some [])) := (hg3.block D (by simp; have := (Array.getElem?_eq_some_iff.1 hD2).1; omega) (row_ne' hrow2 (by omega))).trans ((Below.heap_alloc _ _ D (Array.getElem?_eq_some_iff.1 hD2).1).trans hD2)
  have hK3 : w3.heap[K]? = W2.heap[K]? := (hg3.block K (by simp; omega) (row_ne' hrow2 (by omega))).trans (Below.heap_alloc _ _ K hs2)
  obtain ⟨w4, hw4⟩ : ∃ w4, w3.setCell ⟨Bs, 0, none⟩ (.slice (some ⟨g', 0, none⟩) (ss.length + 1) cap') = w4 := ⟨_, rfl⟩
  rw [hw4] at hv4 hb4 ⊢
  have hg4 : w3.grownBy w4 (some Bs) := by rw [← hw4]; exact grownBy_setCell' _ _ _
  clear hw4
  have hL4 : w4.heap[l]? = some (.loop { apRec fn sv Bs D .ready none with state := .busy }) := (hg4.block l (Array.getElem?_eq_some_iff.1 hL3).1 (fun e => by cases e; omega)).trans hL3
  have hD4 : w4.heap[D]? = some (.deferred (some [])) := (hg4.block D (Array.getElem?_eq_some_iff.1 hD3).1 (fun e => by cases e; omega)).trans hD3
  have hK4 : w4.heap[K]? = W2.heap[K]? := (hg4.block K (by have := hg3.size; simp at this; omega) (fun e => by cases e; omega)).trans hK3
  have hr4 := hown'.kept hg4 (row_ne hown' (by omega))
  have hl4 : l < w4.heap.size := (Array.getElem?_eq_some_iff.1 hL4).1
  refine ⟨_, _, run_endRound none hL4, rfl, ⟨⟨_, (World.putObj_heap_other (by omega)).trans hv4, ?_⟩, World.putObj_heap_same hl4, (World.putObj_heap_other (by omega)).trans hD4, ?_⟩, (World.putObj_heap_other (by omega)).trans (hK4.trans (hg2.block K hK (fun e => by cases e; omega)))⟩
  · have := hr4.kept (grown_put w4 l (.loop { { apRec fn sv Bs D .ready none with state := .busy } with state := if (none : Option Code).isNone then .ready else .done, pending := none })) (row_ne hr4 (by omega))
    simpa using this
  · exact (hb2.trans hb4).grown (grown_put _ _ _) (hb2.trans hb4).size (fun k e => by cases e; omega)

set_option maxRecDepth 100000 in
set_option maxHeartbeats 2000000 in
theorem appendSeq_in (m Bn : Nat) (n : Int) (w : World) (hB : w.cell? ⟨Bn, 0, none⟩ = some (.int .i64 n)) (hn : -9223372036854775808 ≤ n ∧ n ≤ 9223372036854775807) :
    CallsIn Fence.wide (m + 3) Try.prog 16 #[.slice none 0 0, .func (.func 17) #[] #[.pointer (some ⟨Bn, 0, none⟩)]] w fun e w' => ∃ v, e = .returned v ∧ w'.ownsRow w.heap.size 3 1 v 6 ((ordI n).map encZ') ∧ Below w.heap.size w w' := by
  refine callsIn_of_wp_marks Try.func16 rfl trivial ?_ rfl
  simp only [Try.ntmps16, List.size_toArray, List.length_cons, List.length_nil, Nat.reduceAdd, Nat.reduceSub, Array.replicate_succ, Array.replicate_zero, List.push_toArray, List.append_toArray, List.nil_append, List.cons_append]
  have hBl : Bn < w.heap.size := World.block_lt_of_cell? w ⟨Bn, 0, none⟩ hB
  gi_wp2
  refine wpIn_rangeFunc ?_
  intro fn hfn
  rw [show Fence.wide.round = none from rfl]
  obtain ⟨W0, hW0⟩ : ∃ W0, w.alloc (.cells #[.slice none 0 0] 24) = W0 := ⟨_, rfl⟩
  have hs0 : W0.heap.size = w.heap.size + 1 := by rw [← hW0]; simp
  have hv0 : W0.heap[w.heap.size]? = some (.cells #[.slice none 0 0] 24 (0, 0)) := by rw [← hW0]; exact World.alloc_heap_new w _
  have hb0 : Below w.heap.size w W0 := by rw [← hW0]; exact (Below.refl _ w).alloc (Nat.le_refl _) _
  rw [hW0]
  obtain ⟨W1, hW1⟩ : ∃ W1, (W0.alloc (.deferred (some []))).alloc (.loop (apRec fn (.func (.func 17) #[] #[.pointer (some ⟨Bn, 0, none⟩)]) w.heap.size W0.heap.size .ready none)) = W1 := ⟨_, rfl⟩
  have hold : ∀ k, k < W0.heap.size → W1.heap[k]? = W0.heap[k]? := fun k hk => by
    rw [← hW1]; exact (Below.heap_alloc _ _ k (by simp; omega)).trans (Below.heap_alloc _ _ k hk)
  have hb1 : Below w.heap.size w W1 := by rw [← hW1]; exact (hb0.alloc hb0.size _).alloc (by have := hb0.size; simp; omega) _
  have hs1 : W1.heap.size = W0.heap.size + 2 := by rw [← hW1]; simp
  have hM : ApAt w fn (.func (.func 17) #[] #[.pointer (some ⟨Bn, 0, none⟩)]) w.heap.size (W0.heap.size + 1) W0.heap.size W1.heap.size [] W1 :=
    ⟨⟨_, (hold w.heap.size (by omega)).trans hv0, ⟨rfl, .inl ⟨rfl, rfl⟩⟩⟩,
     by rw [← hW1]; have := World.alloc_heap_new (W0.alloc (.deferred (some []))) (.loop (apRec fn (.func (.func 17) #[] #[.pointer (some ⟨Bn, 0, none⟩)]) w.heap.size W0.heap.size .ready none)); rwa [World.size_alloc] at this,
     by rw [← hW1]; exact (Below.heap_alloc _ _ _ (by simp)).trans (World.alloc_heap_new W0 _), hb1⟩
  have hB1 : W1.cell? ⟨Bn, 0, none⟩ = some (.int .i64 n) := (World.cell?_of_block (hb1.block Bn hBl)).trans hB
  refine ⟨W0.heap.size + 1, [{ target := .collected W0.heap.size, args := #[] }], W1, { target := .fn (.func 17) #[.pointer (some ⟨Bn, 0, none⟩)], args := #[.func (.yield (W0.heap.size + 1)) #[] #[]] }, W1, 17,
    #[.func (.yield (W0.heap.size + 1)) #[] #[], .pointer (some ⟨Bn, 0, none⟩)], W1, ?_, ?_, ?_, ?_, fun _ => by omega, ?_⟩
  · rw [← hW1]; exact run_enterLoop_outer _ _ _ _ _
  · simp [resolve, go_sem]
  · intro f' hf'; trivial
  · simp [invoke, go_sem]
  · refine (kinds_in (m + 1) (W0.heap.size + 1) Bn n (ApAt w fn (.func (.func 17) #[] #[.pointer (some ⟨Bn, 0, none⟩)]) w.heap.size (W0.heap.size + 1) W0.heap.size W1.heap.size) W1 hB1 hn
      (fun pre A B hA hg => ap_abides (by omega) (by omega) (by omega) (by omega) pre A B hA hg)
      (fun pre x W hJ hs hl => apYield (m + 1) w fn _ w.heap.size (W0.heap.size + 1) W0.heap.size W1.heap.size (by omega) (by omega) (by omega) (Nat.le_refl _) pre x W hJ hs hl) hM).mono ?_
    rintro e W2 ⟨⟨v0, rfl⟩, h2⟩
    obtain ⟨v, hv, hrow⟩ := h2.box
    rw [ordI_length] at hrow
    have hend := run_endLoop (P := Try.prog) h2.L (by simp [apRec])
    obtain ⟨W3, hW3⟩ : ∃ W3, W2.putObj (W0.heap.size + 1) (.loop { apRec fn (.func (.func 17) #[] #[.pointer (some ⟨Bn, 0, none⟩)]) w.heap.size W0.heap.size .ready none with state := .exhausted }) = W3 := ⟨_, rfl⟩
    rw [hW3] at hend
    have hg3 : W2.grownBy W3 (some (W0.heap.size + 1)) := by rw [← hW3]; exact grown_put _ _ _
    have hv3 : Boxed W3 w.heap.size 24 v := by rw [← hW3]; exact (World.putObj_heap_other (by omega)).trans hv
    have hD3 : W3.heap[W0.heap.size]? = some (.deferred (some [])) := by rw [← hW3]; exact (World.putObj_heap_other (by omega)).trans h2.D
    have hrow3 := hrow.kept hg3 (row_ne hrow (by omega))
    have hb3 : Below w.heap.size w W3 := h2.below.grown hg3 h2.below.size (fun k e => by cases e; omega)
    have hc3 := hv3.cell
    have hf3 := hv3.frozen
    have h01 : W0.heap.size < W1.heap.size := by omega
    clear hW3 hs1 hM hB1 hold hW1
    refine ⟨none, W3, hend, ?_⟩
    have hrowF := row_base (hrow3.kept (grown_put W3 W0.heap.size (.deferred none)) (row_ne hrow3 (by omega))) (show w.heap.size ≤ _ by have := hb1.size; omega)
    have hbF := hb3.grown (grown_put W3 W0.heap.size (.deferred none)) hb3.size (fun k e => by cases e; omega)
    clear hs0
    clear h01
    gi_wp2
    refine ⟨by simp, .inl ⟨_, _, rfl, run_takeDeferred hD3, ?_⟩⟩
    exact ⟨_, results_tmp rfl _ _ _, v, rfl, hrowF, hbF⟩

set_option maxRecDepth 100000 in
set_option maxHeartbeats 1000000 in
theorem collect_any (Bn : Nat) (n : Int) (w : World) (hB : w.cell? ⟨Bn, 0, none⟩ = some (.int .i64 n)) (hn : -9223372036854775808 ≤ n ∧ n ≤ 9223372036854775807) :
    Calls Try.prog 14 #[.func (.func 17) #[] #[.pointer (some ⟨Bn, 0, none⟩)]] w fun e w' => ∃ v, e = .returned v ∧ w'.ownsRow w.heap.size 3 1 v 6 ((ordI n).map encZ') ∧ Below w.heap.size w w' := by
  have h16 := callsIn_wide.1 (appendSeq_in 0 Bn n w hB hn)
  go_enter Try.func14, Try.ntmps14
  go_wp2_with (go_at_call 16; refine Calls.mono h16 ?_; rintro e w' ⟨v, rfl, hrow, hb⟩)
  go_ret
  exact ⟨v, rfl, hrow, hb⟩

set_option maxRecDepth 100000 in
set_option maxHeartbeats 1000000 in
/-- The program's LoopOrder. -/
theorem order_any (n : Int) (w : World) (hn : -9223372036854775808 ≤ n ∧ n ≤ 9223372036854775807) :
    Calls Try.prog 6 #[.int .i64 n] w fun e w' => ∃ v, e = .returned v ∧ w'.ownsRow w.heap.size 3 1 v 6 ((ordI n).map encZ') ∧ Below w.heap.size w w' := by
  have h15 : Calls Try.prog 15 #[.int .i64 n] w fun e w' => e = .returned (.func (.func 17) #[] #[.pointer (some ⟨w.heap.size, 0, none⟩)]) ∧ w' = w.alloc (.cells #[.int .i64 n] 3) := by
    go_enter Try.func15, Try.ntmps15
    go_wp2
    go_ret
    exact ⟨rfl, rfl⟩
  have hc : (w.alloc (.cells #[.int .i64 n] 3)).cell? ⟨w.heap.size, 0, none⟩ = some (.int .i64 n) := (Boxed.new w 3 (.int .i64 n)).cell
  have h14 := collect_any w.heap.size n (w.alloc (.cells #[.int .i64 n] 3)) hc hn
  rw [World.size_alloc] at h14
  go_enter Try.func6, Try.ntmps6
  go_wp2_with (first
    | (go_at_call 15; refine Calls.mono h15 ?_; rintro e w' ⟨rfl, rfl⟩)
    | (go_at_call 14; refine Calls.mono h14 ?_; rintro e w' ⟨v, rfl, hrow, hb⟩))
  go_ret
  exact ⟨v, rfl, row_base hrow (by omega), ((Below.refl _ w).alloc (Nat.le_refl _) _).trans (hb.mono (by omega))⟩

end Go.Proofs.Ytllcpchojjlnhaa
