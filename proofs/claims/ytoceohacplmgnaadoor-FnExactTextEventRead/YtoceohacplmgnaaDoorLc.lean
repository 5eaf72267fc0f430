/- The laws' own mirrors: what is asked, whole. -/
import Derived.Test.YtoceohacplmgnaaDoorLa
import Derived.Test.YtoceohacplmgnaaDoorLb
namespace Go.Proofs.YtoceohacplmgnaaDoor
open Go.RowKit

/-- A block that is known whole: each of its cells, and that none is frozen. -/
theorem block_cells {w : World} {b : Nat} {cs : Array Value} {T : TypeId} (h : w.heap[b]? = some (.cells cs T (0, 0))) : (∀ k, w.cell? ⟨b, k, none⟩ = cs[k]?) ∧ (∀ k, w.frozen? ⟨b, k, none⟩ = false) := by
  constructor
  · intro k; simp [World.cell?, h]
  · intro k; simp [World.frozen?, h]

/-- What a walk knows of its two boxes behind a call. -/
theorem boxes2 {w w1 : World} {a b : Array Value} {Ta Tb : TypeId} (hb : Below ((w.alloc (.cells a Ta)).alloc (.cells b Tb)).heap.size ((w.alloc (.cells a Ta)).alloc (.cells b Tb)) w1) :
    ((∀ k, w1.cell? ⟨w.heap.size, k, none⟩ = a[k]?) ∧ (∀ k, w1.frozen? ⟨w.heap.size, k, none⟩ = false)) ∧ ((∀ k, w1.cell? ⟨w.heap.size + 1, k, none⟩ = b[k]?) ∧ (∀ k, w1.frozen? ⟨w.heap.size + 1, k, none⟩ = false)) ∧
    w.heap.size < w1.heap.size ∧ w.heap.size + 1 < w1.heap.size := by
  have hs : w.heap.size + 2 ≤ w1.heap.size := by have := hb.size; simpa using this
  refine ⟨block_cells (T := Ta) ?_, block_cells (T := Tb) ?_, by omega, by omega⟩
  · rw [hb.block _ (by simp; omega), Below.heap_alloc _ _ _ (by simp), heap_alloc_new]
  · rw [hb.block _ (by simp)]
    have := heap_alloc_new (w.alloc (.cells a Ta)) (.cells b Tb)
    simpa using this

/-- What a walk knows of its three boxes behind a call. -/
theorem boxes3 {w w1 : World} {a b c : Array Value} {Ta Tb Tc : TypeId} (hb : Below (((w.alloc (.cells a Ta)).alloc (.cells b Tb)).alloc (.cells c Tc)).heap.size (((w.alloc (.cells a Ta)).alloc (.cells b Tb)).alloc (.cells c Tc)) w1) :
    ((∀ k, w1.cell? ⟨w.heap.size, k, none⟩ = a[k]?) ∧ (∀ k, w1.frozen? ⟨w.heap.size, k, none⟩ = false)) ∧ ((∀ k, w1.cell? ⟨w.heap.size + 1, k, none⟩ = b[k]?) ∧ (∀ k, w1.frozen? ⟨w.heap.size + 1, k, none⟩ = false)) ∧ ((∀ k, w1.cell? ⟨w.heap.size + 2, k, none⟩ = c[k]?) ∧ (∀ k, w1.frozen? ⟨w.heap.size + 2, k, none⟩ = false)) ∧
    Below w.heap.size w w1 ∧ w.heap.size < w1.heap.size ∧ w.heap.size + 1 < w1.heap.size ∧ w.heap.size + 2 < w1.heap.size := by
  have hs : w.heap.size + 3 ≤ w1.heap.size := by have := hb.size; simpa using this
  refine ⟨block_cells (T := Ta) ?_, block_cells (T := Tb) ?_, block_cells (T := Tc) ?_, ?_, by omega, by omega, by omega⟩
  · rw [hb.block _ (by simp; omega), Below.heap_alloc _ _ _ (by simp; omega), Below.heap_alloc _ _ _ (by simp), heap_alloc_new]
  · rw [hb.block _ (by simp), Below.heap_alloc _ _ _ (by simp)]
    have := heap_alloc_new (w.alloc (.cells a Ta)) (.cells b Tb)
    simpa using this
  · rw [hb.block _ (by simp)]
    have := heap_alloc_new ((w.alloc (.cells a Ta)).alloc (.cells b Tb)) (.cells c Tc)
    simpa using this
  · exact bel_trans (by go_grown) hb

theorem WorksAt.set {w : World} {b o : Nat} {l : List Wk} (h : WorksAt w (some ⟨b, o, none⟩) l) {p : Addr} (hp : p.block ≠ b) (u : Value) : WorksAt (w.setCell p u) (some ⟨b, o, none⟩) l := by
  rcases h with h | ⟨b', o', ha, hl, hc⟩
  · exact .inl h
  · cases ha
    refine .inr ⟨b, o, rfl, by simpa using hl, fun i h j hj => ?_⟩
    rw [World.cell?_of_block (Below.heap_setCell _ _ _ _ (by simpa using hp.symm))]
    exact hc i h j hj
theorem GroupsAt.set {w : World} {b o : Nat} {l : List Gp} (h : GroupsAt w (some ⟨b, o, none⟩) l) {p : Addr} (hp : p.block ≠ b) (u : Value) : GroupsAt (w.setCell p u) (some ⟨b, o, none⟩) l := by
  rcases h with h | ⟨b', o', ha, hl, hc⟩
  · exact .inl h
  · cases ha
    refine .inr ⟨b, o, rfl, by simpa using hl, fun i h j hj => ?_⟩
    rw [World.cell?_of_block (Below.heap_setCell _ _ _ _ (by simpa using hp.symm))]
    exact hc i h j hj
/-- Behind what turned nothing but one box of ours, below a block. -/
theorem WorksAt.keepB {w w' : World} {b o B : Nat} {l : List Wk} (h : WorksAt w (some ⟨b, o, none⟩) l) (hb : Below B w w') (hB : b < B) : WorksAt w' (some ⟨b, o, none⟩) l := by
  rcases h with h | ⟨b', o', ha, hl, hc⟩
  · exact .inl h
  · cases ha
    exact .inr ⟨b, o, rfl, Nat.lt_of_lt_of_le hl hb.size, fun i h j hj => by rw [hb.cell (p := ⟨b, _, none⟩) hB]; exact hc i h j hj⟩

/-- The world is made a letter where it has just been written to. -/
theorem wp_gen_set {P : Program} {c : Code} {Q : Exit → Act → World → Prop} {a : Act} {x : World} {p : Addr} {v : Value} (S : World → Prop) (h0 : S (x.setCell p v)) (h : ∀ W, S W → c.wp P Q a W) : c.wp P Q a (x.setCell p v) := h _ h0

set_option maxRecDepth 100000 in
set_option maxHeartbeats 2000000 in
theorem toCfg_any (v : Value) (c : Cf) (w : World) (h : CfgAt w v c) :
    Calls Tryd.prog 10 #[v] w fun e w' => ∃ v', e = .returned v' ∧ CfgAt w' v' c ∧ Below w.heap.size w w' := by
  obtain ⟨aw, lw, cw, ag, lg, cg, rfl, ⟨h1, h2, h3⟩, ⟨h4, h5, h6⟩⟩ := h
  have H1 := hide h1
  have H3 := hide h3
  have H4 := hide h4
  have H6 := hide h6
  clear h1 h3 h4 h6
  go_enter Tryd.func10, Tryd.ntmps10
  go_wp2_with fail
  refine (toWorks_any aw lw cw c.works _ H1.out h2 (H3.out.keep (by go_grown))).mono ?_
  rintro e w1 ⟨rfl, hw1, hlt1, hb⟩
  obtain ⟨⟨x1, x2⟩, ⟨y1, y2⟩, ⟨q1, q2⟩, hB, z0, z1, z2⟩ := boxes3 hb
  have hw1' : WorksAt w1 (some ⟨w.heap.size + 3, 0, none⟩) c.works := by simpa using hw1
  have hlt3 : w.heap.size + 3 < w1.heap.size := by simpa using hlt1
  have HW1 := hide hw1'
  clear hb hw1 hw1' hlt1
  go_wp2_with fail
  refine (toGroups_any ag lg cg c.groups _ H4.out h5 (H6.out.keep (hB.setCell (by go_size) _))).mono ?_
  rintro e w2 ⟨rfl, hw2, _, hb2⟩
  have hb3 : Below w1.heap.size (w1.setCell ⟨w.heap.size + 2, 0, none⟩ (.slice (some ⟨w.heap.size + 3, 0, none⟩) lw lw)) w2 := by simpa using hb2
  have hw3 : GroupsAt w2 (some ⟨w1.heap.size, 0, none⟩) c.groups := by simpa using hw2
  have HW2 := hide hw3
  clear hb2 hw2 hw3
  have hsz : w1.heap.size ≤ w2.heap.size := by have := hb3.size; simpa using this
  have zz0 : w.heap.size < w2.heap.size := by omega
  have zz1 : w.heap.size + 1 < w2.heap.size := by omega
  have zz2 : w.heap.size + 2 < w2.heap.size := by omega
  have A : ∀ k, w2.cell? ⟨w.heap.size, k, none⟩ = #[Value.slice aw lw cw, .slice ag lg cg, .int .i64 c.start, .int .i64 c.calm, .int .i64 c.idle, .int .i64 c.back][k]? := fun k => by
    rw [hb3.cell (p := ⟨w.heap.size, k, none⟩) z0, World.cell?_of_block (Below.heap_setCell _ _ _ _ (by simp)), x1]
  have B : ∀ k, w2.cell? ⟨w.heap.size + 1, k, none⟩ = #[Value.slice none 0 0, .slice none 0 0, .int .i64 0, .int .i64 0, .int .i64 0, .int .i64 0][k]? := fun k => by
    rw [hb3.cell (p := ⟨w.heap.size + 1, k, none⟩) z1, World.cell?_of_block (Below.heap_setCell _ _ _ _ (by simp)), y1]
  have Bf : ∀ k, w2.frozen? ⟨w.heap.size + 1, k, none⟩ = false := fun k => by
    rw [hb3.frozen (p := ⟨w.heap.size + 1, k, none⟩) z1, World.frozen?_of_block (Below.heap_setCell _ _ _ _ (by simp)), y2]
  have C0 : w2.cell? ⟨w.heap.size + 2, 0, none⟩ = some (.slice (some ⟨w.heap.size + 3, 0, none⟩) lw lw) := by
    rw [hb3.cell (p := ⟨w.heap.size + 2, 0, none⟩) z2]; simp [go_sem, q1]
  have C1 : w2.cell? ⟨w.heap.size + 2, 1, none⟩ = some (.slice none 0 0) := by
    rw [hb3.cell (p := ⟨w.heap.size + 2, 1, none⟩) z2]; simp [go_sem, q1]
  have C2 : w2.cell? ⟨w.heap.size + 2, 2, none⟩ = some (.int .i64 0) := by
    rw [hb3.cell (p := ⟨w.heap.size + 2, 2, none⟩) z2]; simp [go_sem, q1]
  have C3 : w2.cell? ⟨w.heap.size + 2, 3, none⟩ = some (.int .i64 0) := by
    rw [hb3.cell (p := ⟨w.heap.size + 2, 3, none⟩) z2]; simp [go_sem, q1]
  have C4 : w2.cell? ⟨w.heap.size + 2, 4, none⟩ = some (.int .i64 0) := by
    rw [hb3.cell (p := ⟨w.heap.size + 2, 4, none⟩) z2]; simp [go_sem, q1]
  have C5 : w2.cell? ⟨w.heap.size + 2, 5, none⟩ = some (.int .i64 0) := by
    rw [hb3.cell (p := ⟨w.heap.size + 2, 5, none⟩) z2]; simp [go_sem, q1]
  have Cf' : ∀ k, w2.frozen? ⟨w.heap.size + 2, k, none⟩ = false := fun k => by
    rw [hb3.frozen (p := ⟨w.heap.size + 2, k, none⟩) z2]; simp [go_sem, q2]
  have HB3 := hide hb3
  have HBB := hide ((hB.setCell (p := ⟨w.heap.size + 2, 0, none⟩) (by go_size) (.slice (some ⟨w.heap.size + 3, 0, none⟩) lw lw)).trans (hb3.mono (Nat.le_of_lt z0)))
  have HWX : Hid (WorksAt w2 (some ⟨w.heap.size + 3, 0, none⟩) c.works) := (HW1.out.set (p := ⟨w.heap.size + 2, 0, none⟩) (by simp) _).keepB hb3 hlt3
  clear hb3 x1 x2 y1 y2 q1 q2
  simp only [World.size_setCell]
  repeat (first | go_values | go_skip | go_guarded | go_step | go_upon)
  refine bodyPost_ret (v := .agg #[.slice (some ⟨w.heap.size + 3, 0, none⟩) lw lw, .slice (some ⟨w1.heap.size, 0, none⟩) lg lg, .int .i64 c.start, .int .i64 c.calm, .int .i64 c.idle, .int .i64 c.back]) (by simp [results, Tryd.results10, go_sem, *]) rfl ⟨_, rfl, ⟨_, _, _, _, _, _, rfl, ⟨H1.out, h2, ?_⟩, ⟨H4.out, h5, ?_⟩⟩, ?_⟩
  · repeat (refine WorksAt.set ?_ (by simp) _)
    exact HWX.out
  · repeat (refine GroupsAt.set ?_ (by simp; omega) _)
    exact HW2.out
  · repeat (refine Below.setCell ?_ (by go_size) _)
    exact HBB.out
set_option maxRecDepth 100000 in
set_option maxHeartbeats 2000000 in
theorem eqCfg_same (v v' : Value) (c : Cf) (w : World) (h : CfgAt w v c) (h' : CfgAt w v' c) :
    Calls Tryd.prog 12 #[v, v'] w fun e w' => e = .returned (.bool true) ∧ Below w.heap.size w w' := by
  obtain ⟨aw, lw, cw, ag, lg, cg, rfl, ⟨h1, h2, h3⟩, ⟨h4, h5, h6⟩⟩ := h
  obtain ⟨aw', lw', cw', ag', lg', cg', rfl, ⟨h1', h2', h3'⟩, ⟨h4', h5', h6'⟩⟩ := h'
  have e1 : lw = lw' := h1.symm.trans h1'
  have e2 : lg = lg' := h4.symm.trans h4'
  subst e1 e2
  have H1 := hide h1
  have H3 := hide h3
  have H3' := hide h3'
  have H4 := hide h4
  have H6 := hide h6
  have H6' := hide h6'
  clear h1 h3 h4 h6 h1' h3' h4' h6' h2' h5'
  go_enter Tryd.func12, Tryd.ntmps12
  go_wp2_with fail
  refine (eqWorks_same _ _ _ _ _ c.works _ H1.out h2 (H3.out.keep (by go_grown)) (H3'.out.keep (by go_grown))).mono ?_
  rintro e w1 ⟨rfl, hb⟩
  have hB := bel_trans (by go_grown : Below w.heap.size w _) hb
  obtain ⟨⟨x1, x2⟩, ⟨y1, y2⟩, z0, z1⟩ := boxes2 hb
  clear hb
  go_wp2_with fail
  refine (eqGroups_same _ _ _ _ _ c.groups _ H4.out h5 (H6.out.keep hB) (H6'.out.keep hB)).mono ?_
  rintro e w2 ⟨rfl, hb2⟩
  have A : ∀ k, w2.cell? ⟨w.heap.size, k, none⟩ = #[Value.slice aw lw cw, .slice ag lg cg, .int .i64 c.start, .int .i64 c.calm, .int .i64 c.idle, .int .i64 c.back][k]? := fun k => ((bcell hb2).1 _ _ z0).trans (x1 k)
  have B : ∀ k, w2.cell? ⟨w.heap.size + 1, k, none⟩ = #[Value.slice aw' lw cw', .slice ag' lg cg', .int .i64 c.start, .int .i64 c.calm, .int .i64 c.idle, .int .i64 c.back][k]? := fun k => ((bcell hb2).1 _ _ z1).trans (y1 k)
  clear x1 x2 y1 y2
  go_wp2
  all_goals go_ret
  all_goals exact ⟨rfl, bel_trans hB hb2⟩

set_option maxHeartbeats 400000 in
theorem szWorks_any (a : Option Addr) (len cap : Nat) (n : Int) (w : World) (h0 : 0 ≤ n) (h1 : n ≤ 2000000) (hl : len ≤ 9223372036854775807) :
    Calls Tryd.prog 27 #[.slice a len cap, .int .i64 n] w fun e w' => e = .returned (.int .i64 (if n - len < 0 then -1 else n - len)) ∧ w' = w := by
  by_cases hn : n - len < 0
  all_goals
    go_enter Tryd.func27, Tryd.ntmps27
    go_wp2
    all_goals go_ret
    all_goals exact ⟨ret_int (by simp), rfl⟩
set_option maxHeartbeats 400000 in
theorem szGroups_any (a : Option Addr) (len cap : Nat) (n : Int) (w : World) (h0 : 0 ≤ n) (h1 : n ≤ 2000000) (hl : len ≤ 9223372036854775807) :
    Calls Tryd.prog 28 #[.slice a len cap, .int .i64 n] w fun e w' => e = .returned (.int .i64 (if n - len < 0 then -1 else n - len)) ∧ w' = w := by
  by_cases hn : n - len < 0
  all_goals
    go_enter Tryd.func28, Tryd.ntmps28
    go_wp2
    all_goals go_ret
    all_goals exact ⟨ret_int (by simp), rfl⟩
end Go.Proofs.YtoceohacplmgnaaDoor
