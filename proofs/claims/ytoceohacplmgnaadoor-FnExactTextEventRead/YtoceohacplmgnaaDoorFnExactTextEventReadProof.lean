/- The law FnExactTextEventRead holds: at every text the call returns true and leaves the text and the program's own error as they were, where the library's tables and errors and the program's own error stand as the program's text lays them. -/
import Derived.Test.YtoceohacplmgnaaDoorXf
import Derived.Test.YtoceohacplmgnaaDoorXg
import Derived.Test.YtoceohacplmgnaaDoorXh
import Derived.Test.YtoceohacplmgnaaDoorCards
import Derived.Test.YtoceohacplmgnaaDoorTie
import Derived.ProofKit
import Derived.OpenShut
import Derived.ChangeOld
import Derived.ChangeVars
import Derived.Shelf.Vars
import Derived.ChangeMaps5
import Derived.Deep.DeepHandedRow
import Derived.Deep.DeepWitnessRowRef
namespace Go.Proofs.YtoceohacplmgnaaDoor.fnExactTextEventRead
open Go.ChangeShapes Go.WideShapes Go.ChangeAt Go.RowKit
open Go.Proofs.YtoceohacplmgnaaDoor

theorem own : ownKnob Tryd.prog.godebug = none := by kernel_rfl
theorem laidOut : laidOutB Tryd.prog = true := by kernel_rfl
theorem maxLen_of {W : World} (h : W.ShapedOpen Tryd.prog) : ∃ m : Int, W.cell? ⟨1, 0, none⟩ = some (.int .i64 m) :=
  cell_of_shapedOpen_int (zero := #[.int .i64 0]) (t := 3) h (of_decide_eq_true (by kernel_rfl)) (by kernel_rfl) rfl (by kernel_rfl) (by kernel_rfl) Tryd.underlying3
theorem gl_of {W : World} {a : Addr} (h : laidMetH Tryd.prog rd W) (hs : W.ShapedOpen Tryd.prog) (ha : W.var? Tryd.prog "loop.example/hive/impl.errNoLine" = some #[.iface 237 (.pointer (some a))]) : Gl (.iface 237 (.pointer (some a))) W where
  tab := tab_of_rd h
  maxLen := maxLen_of hs
  syn := by obtain ⟨b, hb⟩ := syn_of_laid h; exact ⟨_, _, cell_of_var gSyn hb⟩
  ran := by obtain ⟨b, hb⟩ := ran_of_laid h; exact ⟨_, _, cell_of_var gRan hb⟩
  no := cell_of_var gNo ha
  big := big_of_rd h
theorem var_below {W W' : World} {x : Value} (hb : Below W.heap.size W W') (h9 : 9 ≤ W.heap.size) (h : W.var? Tryd.prog "loop.example/hive/impl.errNoLine" = some #[x]) : W'.var? Tryd.prog "loop.example/hive/impl.errNoLine" = some #[x] := by
  unfold World.var? at h ⊢
  rw [gNo] at h ⊢
  simp only [Option.bind_some] at h ⊢
  rw [hb.block 0 (by omega)]
  exact h

set_option maxRecDepth 100000 in
theorem contract (H : Type) (enc : TypeId × Value → H) (W : World) (base : Nat) (args : Array Value) (ds gs : List (DataW H)) (before : List MemPlace)
    (hval0 : ∀ (j : Nat) t v, Tryd.f6.params[j]? = some t → args[j]? = some v → Value.okWide Tryd.prog W .any base t v)
    (hW : DataW.Whole enc Tryd.prog Tryd.f6.params.toList Rows.fnExactTextEventReadSpec.vars false W args.toList ds gs before) (hL : laidMetH Tryd.prog Rows.fnExactTextEventReadRow.laid W) (hsh : W.ShapedOpen Tryd.prog) :
    Calls Tryd.prog 6 args W fun e W' => ∃ v, e = .returned v ∧ Rows.fnExactTextEventReadSpec.post enc Tryd.prog Tryd.f6 false true false false W args v W' := by
  have hval : ∀ (j : Nat) t v, Tryd.f6.params[j]? = some t → args[j]? = some v → Value.okWide Tryd.prog W .any base t v := hval0
  have hW' := hW
  obtain ⟨p, q, hA0, hV0, rfl, _, _⟩ := hW
  have hA : DataW.TrodAll enc Tryd.prog W 0 (fun _ => true) true Tryd.f6.params.toList args.toList ds p := hA0
  have hV : DataW.TrodVars enc Tryd.prog W (fun _ => true) ["loop.example/hive/impl.errNoLine"] gs q := hV0
  rw [Tryd.params6] at hA hval
  obtain ⟨v0, vs0, d0, ds0, p0, q0, hargs, rfl, rfl, h0, r0⟩ := trodAll_cons hA
  obtain ⟨rfl, rfl, rfl⟩ := trodAll_nil r0
  obtain rfl : args = #[v0] := by cases args; simp_all
  obtain ⟨s, rfl, rfl, rfl, ws⟩ := ChangeMaps.open_string Tryd.underlying9 (hval 0 9 v0 rfl rfl) h0
  obtain ⟨a, hv⟩ := no_of_laid hL
  obtain ⟨rfl, rfl⟩ := hV.unique (vars_read1 enc gNo gNoType Tryd.underlying183 hv trivial _)
  have G := gl_of hL hsh hv
  clear hA0 hV0 hval0
  obtain ⟨l, rfl⟩ : ∃ l : List UInt8, s = ⟨l.toArray⟩ := ⟨s.data.toList, by simp⟩
  have hl : l.length ≤ 9223372036854775807 := by
    have : l.toArray.size ≤ maxLen := ws
    simp [maxLen] at this
    omega
  refine (exTextEventRead l 237 (.pointer (some a)) W G hl).mono fun e W' ⟨he, bel⟩ => ?_
  subst he
  exact ⟨_, rfl, _, _, _, [], _, [.cell 0 0], hW', trodAll_mk1 (shut_bool Tryd.underlying4 _), (trodAll_cons_mk (ChangeMaps.shut_string Tryd.underlying9 ws) trodAll_mk0), vars_read1 enc gNo gNoType Tryd.underlying183 (var_below bel G.big hv) trivial _, bel.frame _, fun h => by cases h⟩

theorem laid_met (os : Os) : laidMet Tryd.prog Rows.fnExactTextEventReadRow.laid ((laidWorldR os).forCall (fun _ _ => 0) ⟨#[], #[.string ⟨#[]⟩], []⟩).memory :=
  laidMet_of_run' 8 (by kernel_rfl) (by kernel_rfl)
theorem reads (os : Os) {H : Type} (enc : TypeId × Value → H) : ∃ (ds gs : List (DataW H)) (places : List MemPlace), DataW.whole enc Tryd.prog ((laidWorldR os).forCall (fun _ _ => 0) ⟨#[], #[.string ⟨#[]⟩], []⟩).memory Tryd.f6.params.toList Rows.fnExactTextEventReadSpec.vars false #[.string ⟨#[]⟩].toList 8 = some (ds, gs, places) := by
  have h : (DataW.whole enc Tryd.prog ((laidWorldR os).forCall (fun _ _ => 0) ⟨#[], #[.string ⟨#[]⟩], []⟩).memory Tryd.f6.params.toList Rows.fnExactTextEventReadSpec.vars false #[.string ⟨#[]⟩].toList 8).isSome = true := by kernel_rfl
  obtain ⟨⟨ds, gs, ps⟩, hx⟩ := Option.isSome_iff_exists.1 h
  exact ⟨ds, gs, ps, hx⟩

set_option maxRecDepth 100000 in
theorem lifted (os : Os) (started : os.Started) (H : Type) (enc : TypeId × Value → H) (F : Stop.Interp) :
    ReturnsInHanded {} Tryd.checked os 6 .any ((OpenSpec.ofChange Rows.fnExactTextEventReadSpec).preRow enc Tryd.prog Tryd.f6 Rows.fnExactTextEventReadRow.domain false Rows.fnExactTextEventReadRow.laid) (((OpenSpec.ofChange Rows.fnExactTextEventReadSpec).at F).post enc Tryd.prog Tryd.f6 false true false false) := by
  obtain ⟨ds, gs, places, hx⟩ := reads os enc
  refine returnsInHanded_of_row (C := Tryd.checked) (s := OpenSpec.ofChange Rows.fnExactTextEventReadSpec) own started (by kernel_rfl) Tryd.func6
    (witness_row_at (enc := enc) (C := Tryd.checked) false (laidWorldR os) #[.string ⟨#[]⟩] rfl (by kernel_rfl) (by kernel_rfl) (by kernel_rfl)
      (OpenSpec.preRow_of_cond 8 hx (by kernel_rfl) (fun k hk => by cases hk) (by kernel_rfl) (laid_met os))) ?_
  intro W base args ds gs before hval hW _ _ _ hL hsh _
  exact contract H enc W base args ds gs before hval hW hL hsh

theorem said : Rows.FnExactTextEventReadSaid :=
  OpenClaim.holds_of_cond 6 Tryd.f6 rfl rfl rfl rfl rfl rfl rfl ⟨rfl, rfl, rfl, rfl, rfl⟩ rfl rfl rfl rfl rfl (by kernel_rfl) Tryd.func6 (by kernel_rfl)
    (of_decide_eq_true (by kernel_rfl)) (by unfold Func.isWrapper; first | (rw [if_pos (by decide +kernel)]; kernel_rfl) | (rw [if_neg (by decide +kernel)]; exact ⟨rfl, rfl⟩))
    (fun os started H enc _ F => by rw [OpenClaim.pre_eq_preRow]; exact lifted os started H enc F)

/-- No parameter wants a stand-in; the program's own looks are on: what the card asks. -/
theorem plain (f : FuncId) (fn : Func) (hf : Tryd.pinned.checked.prog.funcNamed Rows.fnExactTextEventReadRow.func = some f) (hfn : Tryd.pinned.checked.prog.funcs[f]? = some fn) :
    true = Tryd.pinned.checked.prog.looks [] ∧ ∀ (j : Nat) t, fn.params[j]? = some t → Tryd.pinned.checked.prog.wantsStandIn t = false := by
  obtain rfl : f = 6 := Option.some.inj ((show Tryd.prog.funcNamed Rows.fnExactTextEventReadRow.func = some 6 by kernel_rfl).symm.trans hf) |>.symm
  obtain rfl : fn = Tryd.f6 := (Option.some.inj (Tryd.func6.symm.trans hfn)).symm
  refine ⟨by kernel_rfl, fun j t ht => ?_⟩
  rw [Tryd.params6] at ht
  obtain rfl : t = 9 := by simpa using Array.mem_of_getElem? ht
  exact (show Tryd.prog.wantsStandIn 9 = false by kernel_rfl)

theorem card : Rows.FnExactTextEventReadCardSaid :=
  Claim7.holds_tied_plain_at .later [] _ _ _ _ said (fun _ h => by cases h) (by kernel_rfl) (fun _ h => by cases h) fnExactTextEventRead_row_tie rfl ⟨rfl, rfl⟩ (by kernel_rfl) rfl plain (by kernel_rfl)
end Go.Proofs.YtoceohacplmgnaaDoor.fnExactTextEventRead
namespace Go.Proofs.YtoceohacplmgnaaDoor
theorem fnExactTextEventRead_holds : Rows.FnExactTextEventReadCardSaid := fnExactTextEventRead.card
#print axioms fnExactTextEventRead_holds
end Go.Proofs.YtoceohacplmgnaaDoor
