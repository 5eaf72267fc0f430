/- A copy of what is asked, in memory of one's own. -/
import Derived.Test.YtcdjklpnjdladaaLc
import Derived.Test.YtcdjklpnjdladaaOc
namespace Go.Proofs.Ytcdjklpnjdladaa
open Go.RowKit

theorem owns_far {base size n : Nat} {e : TypeId} {v : Value} {xs : List Value} {w : World} (h : w.ownsRow base e size v n xs) {p : Addr} (hp : ∀ k, v.ownBlock = some k → k ≠ p.block) (u : Value) : (w.setCell p u).ownsRow base e size v n xs := by
  refine h.kept (row := some p.block) ⟨rfl, rfl, rfl, by simp, fun k _ hk => Below.heap_setCell _ _ _ _ (fun e => hk (by rw [e]))⟩ ?_
  cases hv : v.ownBlock with
  | none => exact .inl rfl
  | some k => exact .inr (fun e => hp k hv (by cases e; rfl))
/-- A row of one's own in block p. -/
def Row (w : World) (p : Nat) (T : TypeId) (m len : Nat) : Prop := ∃ xs, w.ownsRow p T m (.slice (some ⟨p, 0, none⟩) len len) len xs
theorem Row.far {w : World} {p m len : Nat} {T : TypeId} (h : Row w p T m len) {a : Addr} (hp : a.block ≠ p) (u : Value) : Row (w.setCell a u) p T m len := by
  obtain ⟨xs, h⟩ := h
  exact ⟨xs, owns_far h (fun k hk => by simp [Value.ownBlock] at hk; rw [← hk]; exact hp.symm) u⟩
theorem Row.keepB {w w' : World} {p m len B : Nat} {T : TypeId} (h : Row w p T m len) (hb : Below B w w') (hB : p < B) : Row w' p T m len := by
  obtain ⟨xs, h⟩ := h
  refine ⟨xs, owns_only (S := fun k => B ≤ k) h ⟨hb.os, hb.tape, hb.output, hb.size, fun k _ hS => hb.block k (by omega)⟩ (fun k hk => ?_)⟩
  simp [Value.ownBlock] at hk
  omega
theorem Row.lt {w : World} {p m len : Nat} {T : TypeId} (h : Row w p T m len) : p < w.heap.size := by
  obtain ⟨xs, h⟩ := h
  exact (h.lt p rfl).2

set_option maxRecDepth 100000 in
set_option maxHeartbeats 2000000 in
theorem toWorks_own (a : Option Addr) (len cap : Nat) (l : List Wk) (w : World) (hlen : l.length = len) (hn : len ≤ 2000000) (hl : WorksAt w a l) :
    Calls Try.prog 24 #[.slice a len cap] w fun e w' => e = .returned (.slice (some ⟨w.heap.size, 0, none⟩) len len) ∧ WorksAt w' (some ⟨w.heap.size, 0, none⟩) l ∧ Row w' w.heap.size 60 8 len ∧ Below w.heap.size w w' := by
  obtain ⟨inf, i1, i2, i3, i4⟩ := info60
  obtain ⟨w0, hrun, hown, hgrow⟩ := run_make_full (P := Try.prog) w w.heap.size 34 60 inf _ 8 Try.underlying34 i1 i2 i3 .i64 .i64 len (by rw [i4]; omega) (by unfold maxLen; omega) (Nat.le_refl _)
  have HL := hide hl
  have HN := hide hlen
  have HO := hide hown
  have HG := hide (grown_bel hgrow)
  have hsz : w.heap.size < w0.heap.size := (hown.lt _ rfl).2
  clear hl hlen hown hgrow i1 i2 i3 i4
  have hi40 : (Try.prog.info? 60).map (·.size) = some 8 := by kernel_rfl
  go_enter Try.func24, Try.ntmps24
  go_wp2
  go_loopw [4] (fun i w' => ∃ k : Nat, k ≤ len ∧ i = .int .i64 k ∧ Below w.heap.size w w' ∧ ∃ xs, Hid (w'.ownsRow w.heap.size 60 8 (.slice (some ⟨w.heap.size, 0, none⟩) len len) len xs ∧ HasWk xs l k)) (fun i _ => len - (intOf i).toNat)
  case atStart => exact ⟨0, Nat.zero_le _, rfl, HG.out, _, HO.out, fun i h hi => absurd hi (by omega)⟩
  case round =>
    obtain ⟨k, hk, rfl, hbel, xs, hxs⟩ := hrel
    by_cases hlt : k < len
    · obtain ⟨b, o, ha, hbl, c0, c1, c2, c3, c4, c5, c6, c7⟩ := (HL.out.keep hbel).at k (by rw [HN.out]; exact hlt)
      subst ha
      have hk0 : (0 : Int) ≤ (k : Int) := by omega
      have hkn : (k : Int) < (len : Int) := by omega
      have hkl : k < l.length := by rw [HN.out]; exact hlt
      go_wp2_with fail
      refine (toWork_any l[k] _).mono ?_
      rintro e w2 ⟨rfl, hb⟩
      have ho2 : w2.ownsRow w.heap.size 60 8 (.slice (some ⟨w.heap.size, 0, none⟩) len len) len xs := hxs.out.1.kept (bel_grown hb) (.inr (by simp [Value.ownBlock]))
      have hxl : xs.length = len * 8 := ho2.1
      have hmul : k * 8 + 8 ≤ len * 8 := by have := Nat.mul_le_mul_right 8 (show k + 1 ≤ len from hlt); omega
      have hth : w2.there w.heap.size (k * 8) 8 := fun j hj => ⟨by rw [ho2.cellAt _ (by omega), List.getElem?_eq_getElem (by omega)]; rfl, ho2.frozenAt _⟩
      have hTH := hide hth
      clear hth
      have HX := hide hxs
      have HO2 := hide ho2
      clear hxs ho2 c0 c1 c2 c3 c4 c5 c6 c7
      go_wp2_with (refine wpList_store_mid (by rfl) 60 _ _ (by rfl) _ _ _ (by rfl) (by rfl) ?_ ?_ ?_ ?_; (· (exact hTH.out)); (· (exact hi40)); (· (simp [Value.oneCell'])))
      go_roundw
      case rel =>
        refine ⟨k + 1, by omega, by go_num, ?_, _, ?_, HX.out.2.next hkl (by rw [HN.out]; exact HO2.out.1)⟩
        · exact bel_setCells (Nat.le_refl _) _ _ _ (bel_trans hbel hb)
        · exact owns_setCells _ _ _ _ HO2.out
      case measure => simp [intOf]; omega
    · have : k = len := by omega
      subst this
      go_wp2
      go_ret
      refine ⟨rfl, .inr ⟨w.heap.size, 0, rfl, (hxs.out.1.lt _ rfl).2, fun i h j hj => ?_⟩, ⟨_, hxs.out.1⟩, hbel⟩
      have h1 := hxs.out.2 i h (by rw [← HN.out]; exact h) j hj
      have h2 := hxs.out.1.cellAt (i * 8 + j) (by rw [HN.out] at h; have := Nat.mul_le_mul_right 8 (show i + 1 ≤ k from h); omega)
      rw [Nat.zero_add, h2, h1]

set_option maxRecDepth 100000 in
set_option maxHeartbeats 2000000 in
theorem toGroups_own (a : Option Addr) (len cap : Nat) (l : List Gp) (w : World) (hlen : l.length = len) (hn : len ≤ 2000000) (hl : GroupsAt w a l) :
    Calls Try.prog 25 #[.slice a len cap] w fun e w' => e = .returned (.slice (some ⟨w.heap.size, 0, none⟩) len len) ∧ GroupsAt w' (some ⟨w.heap.size, 0, none⟩) l ∧ Row w' w.heap.size 96 5 len ∧ Below w.heap.size w w' := by
  obtain ⟨inf, i1, i2, i3, i4⟩ := info96
  obtain ⟨w0, hrun, hown, hgrow⟩ := run_make_full (P := Try.prog) w w.heap.size 35 96 inf _ 5 Try.underlying35 i1 i2 i3 .i64 .i64 len (by rw [i4]; omega) (by unfold maxLen; omega) (Nat.le_refl _)
  have HL := hide hl
  have HN := hide hlen
  have HO := hide hown
  have HG := hide (grown_bel hgrow)
  have hsz : w.heap.size < w0.heap.size := (hown.lt _ rfl).2
  clear hl hlen hown hgrow i1 i2 i3 i4
  have hi37 : (Try.prog.info? 96).map (·.size) = some 5 := by kernel_rfl
  go_enter Try.func25, Try.ntmps25
  go_wp2
  go_loopw [4] (fun i w' => ∃ k : Nat, k ≤ len ∧ i = .int .i64 k ∧ Below w.heap.size w w' ∧ ∃ xs, Hid (w'.ownsRow w.heap.size 96 5 (.slice (some ⟨w.heap.size, 0, none⟩) len len) len xs ∧ HasGp xs l k)) (fun i _ => len - (intOf i).toNat)
  case atStart => exact ⟨0, Nat.zero_le _, rfl, HG.out, _, HO.out, fun i h hi => absurd hi (by omega)⟩
  case round =>
    obtain ⟨k, hk, rfl, hbel, xs, hxs⟩ := hrel
    by_cases hlt : k < len
    · obtain ⟨b, o, ha, hbl, c0, c1, c2, c3, c4⟩ := (HL.out.keep hbel).at k (by rw [HN.out]; exact hlt)
      subst ha
      have hk0 : (0 : Int) ≤ (k : Int) := by omega
      have hkn : (k : Int) < (len : Int) := by omega
      have hkl : k < l.length := by rw [HN.out]; exact hlt
      go_wp2_with fail
      refine (toGroup_any l[k] _).mono ?_
      rintro e w2 ⟨rfl, hb⟩
      have ho2 : w2.ownsRow w.heap.size 96 5 (.slice (some ⟨w.heap.size, 0, none⟩) len len) len xs := hxs.out.1.kept (bel_grown hb) (.inr (by simp [Value.ownBlock]))
      have hxl : xs.length = len * 5 := ho2.1
      have hmul : k * 5 + 5 ≤ len * 5 := by have := Nat.mul_le_mul_right 5 (show k + 1 ≤ len from hlt); omega
      have hth : w2.there w.heap.size (k * 5) 5 := fun j hj => ⟨by rw [ho2.cellAt _ (by omega), List.getElem?_eq_getElem (by omega)]; rfl, ho2.frozenAt _⟩
      have hTH := hide hth
      clear hth
      have HX := hide hxs
      have HO2 := hide ho2
      clear hxs ho2 c0 c1 c2 c3 c4
      go_wp2_with (refine wpList_store_mid (by rfl) 96 _ _ (by rfl) _ _ _ (by rfl) (by rfl) ?_ ?_ ?_ ?_; (· (exact hTH.out)); (· (exact hi37)); (· (simp [Value.oneCell'])))
      go_roundw
      case rel =>
        refine ⟨k + 1, by omega, by go_num, ?_, _, ?_, HX.out.2.next hkl (by rw [HN.out]; exact HO2.out.1)⟩
        · exact bel_setCells (Nat.le_refl _) _ _ _ (bel_trans hbel hb)
        · exact owns_setCells _ _ _ _ HO2.out
      case measure => simp [intOf]; omega
    · have : k = len := by omega
      subst this
      go_wp2
      go_ret
      refine ⟨rfl, .inr ⟨w.heap.size, 0, rfl, (hxs.out.1.lt _ rfl).2, fun i h j hj => ?_⟩, ⟨_, hxs.out.1⟩, hbel⟩
      have h1 := hxs.out.2 i h (by rw [← HN.out]; exact h) j hj
      have h2 := hxs.out.1.cellAt (i * 5 + j) (by rw [HN.out] at h; have := Nat.mul_le_mul_right 5 (show i + 1 ≤ k from h); omega)
      rw [Nat.zero_add, h2, h1]

set_option maxRecDepth 100000 in
set_option maxHeartbeats 2000000 in
theorem toCfg_own (v : Value) (c : Cf) (w : World) (h : CfgAt w v c) :
    Calls Try.prog 8 #[v] w fun e w' => ∃ p q, e = .returned (.agg #[.slice (some ⟨p, 0, none⟩) c.works.length c.works.length, .slice (some ⟨q, 0, none⟩) c.groups.length c.groups.length, .int .i64 c.start, .int .i64 c.calm, .int .i64 c.idle, .int .i64 c.back]) ∧ CfgAt w' (.agg #[.slice (some ⟨p, 0, none⟩) c.works.length c.works.length, .slice (some ⟨q, 0, none⟩) c.groups.length c.groups.length, .int .i64 c.start, .int .i64 c.calm, .int .i64 c.idle, .int .i64 c.back]) c ∧ p ≠ q ∧ w.heap.size ≤ p ∧ w.heap.size ≤ q ∧ Row w' p 60 8 c.works.length ∧ Row w' q 96 5 c.groups.length ∧ Below w.heap.size w w' := by
  obtain ⟨aw, lw, cw, ag, lg, cg, rfl, ⟨h1, h2, h3⟩, ⟨h4, h5, h6⟩⟩ := h
  have H1 := hide h1
  have H3 := hide h3
  have H4 := hide h4
  have H6 := hide h6
  clear h1 h3 h4 h6
  go_enter Try.func8, Try.ntmps8
  go_wp2_with fail
  refine (toWorks_own aw lw cw c.works _ H1.out h2 (H3.out.keep (by go_grown))).mono ?_
  rintro e w1 ⟨rfl, hw1, hrow1, hb⟩
  have hlt1 := hrow1.lt
  obtain ⟨⟨x1, x2⟩, ⟨y1, y2⟩, ⟨q1, q2⟩, hB, z0, z1, z2⟩ := boxes3 hb
  have hw1' : WorksAt w1 (some ⟨w.heap.size + 3, 0, none⟩) c.works := by simpa using hw1
  have hlt3 : w.heap.size + 3 < w1.heap.size := by simpa using hlt1
  have HW1 := hide hw1'
  have hrow1' : Row w1 (w.heap.size + 3) 60 8 lw := by simpa using hrow1
  have HR1 := hide hrow1'
  clear hrow1 hrow1'
  clear hb hw1 hw1' hlt1
  go_wp2_with fail
  refine (toGroups_own ag lg cg c.groups _ H4.out h5 (H6.out.keep (hB.setCell (by go_size) _))).mono ?_
  rintro e w2 ⟨rfl, hw2, hrow2, hb2⟩
  have hrow2' : Row w2 w1.heap.size 96 5 lg := by simpa using hrow2
  have HR2 := hide hrow2'
  clear hrow2 hrow2'
  have hb3 : Below w1.heap.size (w1.setCell ⟨w.heap.size + 2, 0, none⟩ (.slice (some ⟨w.heap.size + 3, 0, none⟩) lw lw)) w2 := by simpa using hb2
  have hw3 : GroupsAt w2 (some ⟨w1.heap.size, 0, none⟩) c.groups := by simpa using hw2
  have HW2 := hide hw3
  clear hb2 hw2 hw3
  have hsz : w1.heap.size ≤ w2.heap.size := by have := hb3.size; simpa using this
  have zz0 : w.heap.size < w2.heap.size := by omega
  have zz1 : w.heap.size + 1 < w2.heap.size := by omega
  have zz2 : w.heap.size + 2 < w2.heap.size := by omega
  have A : ∀ k, w2.cell? ⟨w.heap.size, k, none⟩ = #[Value.slice aw lw cw, .slice ag lg cg, .int .i64 c.start, .int .i64 c.calm, .int .i64 c.idle, .int .i64 c.back][k]? := fun k => by
    rw [hb3.cell (p := ⟨w.heap.size, k, none⟩) z0, World.cell?_of_block (Below.heap_setCell _ _ _ _ (by simp)), x1]
  have B : ∀ k, w2.cell? ⟨w.heap.size + 1, k, none⟩ = #[Value.slice none 0 0, .slice none 0 0, .int .i64 0, .int .i64 0, .int .i64 0, .int .i64 0][k]? := fun k => by
    rw [hb3.cell (p := ⟨w.heap.size + 1, k, none⟩) z1, World.cell?_of_block (Below.heap_setCell _ _ _ _ (by simp)), y1]
  have Bf : ∀ k, w2.frozen? ⟨w.heap.size + 1, k, none⟩ = false := fun k => by
    rw [hb3.frozen (p := ⟨w.heap.size + 1, k, none⟩) z1, World.frozen?_of_block (Below.heap_setCell _ _ _ _ (by simp)), y2]
  have C0 : w2.cell? ⟨w.heap.size + 2, 0, none⟩ = some (.slice (some ⟨w.heap.size + 3, 0, none⟩) lw lw) := by
    rw [hb3.cell (p := ⟨w.heap.size + 2, 0, none⟩) z2]; simp [go_sem, q1]
  have C1 : w2.cell? ⟨w.heap.size + 2, 1, none⟩ = some (.slice none 0 0) := by
    rw [hb3.cell (p := ⟨w.heap.size + 2, 1, none⟩) z2]; simp [go_sem, q1]
  have C2 : w2.cell? ⟨w.heap.size + 2, 2, none⟩ = some (.int .i64 0) := by
    rw [hb3.cell (p := ⟨w.heap.size + 2, 2, none⟩) z2]; simp [go_sem, q1]
  have C3 : w2.cell? ⟨w.heap.size + 2, 3, none⟩ = some (.int .i64 0) := by
    rw [hb3.cell (p := ⟨w.heap.size + 2, 3, none⟩) z2]; simp [go_sem, q1]
  have C4 : w2.cell? ⟨w.heap.size + 2, 4, none⟩ = some (.int .i64 0) := by
    rw [hb3.cell (p := ⟨w.heap.size + 2, 4, none⟩) z2]; simp [go_sem, q1]
  have C5 : w2.cell? ⟨w.heap.size + 2, 5, none⟩ = some (.int .i64 0) := by
    rw [hb3.cell (p := ⟨w.heap.size + 2, 5, none⟩) z2]; simp [go_sem, q1]
  have Cf' : ∀ k, w2.frozen? ⟨w.heap.size + 2, k, none⟩ = false := fun k => by
    rw [hb3.frozen (p := ⟨w.heap.size + 2, k, none⟩) z2]; simp [go_sem, q2]
  have HB3 := hide hb3
  have HBB := hide ((hB.setCell (p := ⟨w.heap.size + 2, 0, none⟩) (by go_size) (.slice (some ⟨w.heap.size + 3, 0, none⟩) lw lw)).trans (hb3.mono (Nat.le_of_lt z0)))
  have HWX : Hid (WorksAt w2 (some ⟨w.heap.size + 3, 0, none⟩) c.works) := (HW1.out.set (p := ⟨w.heap.size + 2, 0, none⟩) (by simp) _).keepB hb3 hlt3
  have HRX : Hid (Row w2 (w.heap.size + 3) 60 8 lw) := (HR1.out.far (a := ⟨w.heap.size + 2, 0, none⟩) (by simp) _).keepB hb3 hlt3
  clear hb3 x1 x2 y1 y2 q1 q2 HR1
  simp only [World.size_setCell]
  repeat (first | go_values | go_skip | go_guarded | go_step | go_upon)
  refine bodyPost_ret (v := .agg #[.slice (some ⟨w.heap.size + 3, 0, none⟩) lw lw, .slice (some ⟨w1.heap.size, 0, none⟩) lg lg, .int .i64 c.start, .int .i64 c.calm, .int .i64 c.idle, .int .i64 c.back]) (by simp [results, Try.results8, go_sem, *]) rfl ⟨w.heap.size + 3, w1.heap.size, by rw [H1.out, H4.out], ⟨_, _, _, _, _, _, by rw [H1.out, H4.out], ⟨H1.out, h2, ?_⟩, ⟨H4.out, h5, ?_⟩⟩, by omega, by omega, by omega, ?_, ?_, ?_⟩
  · repeat (refine WorksAt.set ?_ (by simp) _)
    exact HWX.out
  · repeat (refine GroupsAt.set ?_ (by simp; omega) _)
    exact HW2.out
  · rw [H1.out]
    repeat (refine Row.far ?_ (by simp) _)
    exact HRX.out
  · rw [H4.out]
    repeat (refine Row.far ?_ (by simp; omega) _)
    exact HR2.out
  · repeat (refine Below.setCell ?_ (by go_size) _)
    exact HBB.out

end Go.Proofs.Ytcdjklpnjdladaa
