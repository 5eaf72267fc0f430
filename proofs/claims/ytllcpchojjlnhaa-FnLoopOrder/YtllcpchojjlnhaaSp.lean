/- The document's LoopOrder. -/
import Derived.Test.YtllcpchojjlnhaaAp
import Derived.Deep.RegionLaw
import Derived.Deep.DeepCutAuto
import Derived.Handy
namespace Go.Proofs.Ytllcpchojjlnhaa
open Go.RowKit Go.Maps

theorem hide {p : Prop} (h : p) : Hid p := h

/-- append to a row of one's own, as one step of a region that draws; where the answer lies. -/
theorem step_append_at {P : Program} {ops : Array Oper} {o : Oper} {a : Act} {w : World} {K : Act → World → Prop} {Q : Exit → Act → World → Prop} {E : Prop}
    (hg : o.guard = none) (s x : Operand) (t : TypeId) (hop : o.op = Op.call { callee := Callee.builtin Builtin.append, args := #[s, x], argTypes := #[t, t] })
    (base : Nat) (e : TypeId) (i : TypeInfo) (z : Value) (size bytes : Nat) (h1 : P.underlying t = some (.slice e)) (h2 : P.info? e = some i) (h3 : i.zero = some z) (h4 : i.size = size) (h5 : i.bytes = bytes) (h6 : z.cells.size = size) (h7 : 0 < size)
    (v : Value) (n : Nat) (xs : List Value) (hs : a.eval s = v) (hown : w.ownsRow base e size v n xs)
    (ad : Addr) (m c : Nat) (news : List Value) (hx : a.eval x = .slice (some ad) m c) (hn : news.length = m * size) (hc : ∀ j u, news[j]? = some u → w.cell? (ad.add j) = some u) (h1c : ∀ u ∈ news, u.oneCell' = true)
    (b1 : n + m ≤ maxLen) (b2 : (n + m) * bytes ≤ 140737488355328) (hb : base ≤ w.heap.size)
    (hK : ∀ v' w', w'.ownsRow base e size v' (n + m) (xs ++ news) → w.grownBy w' v.ownBlock → (v'.ownBlock = v.ownBlock ∨ v'.ownBlock = some w.heap.size) → K (a.put o.dst v') w') :
    if Region.wanted o (yielded ops a.tmps) = true then Oper.wp P o a w K Q else E := by
  have hw : Region.wanted o (yielded ops a.tmps) = true := by simp [Region.wanted, hg]
  rw [if_pos hw]
  obtain ⟨v', w', hrun, r1, r2, _, r4⟩ := run_append_own_at (P := P) w base t o.type e i z size bytes h1 h2 h3 h4 h5 h6 h7 v n xs hown ad m c news hn hc h1c b1 b2 hb
  unfold Oper.wp
  simp [execOp, hop, resolve, invoke, builtin, hs, hx, hrun, Result.andThen]
  exact hK v' w' r1 r2 r4

def lenV : Value → Nat
  | .slice _ n _ => n
  | _ => 0

/-- A row of numbers of one's own. -/
def R (W : World) (base : Nat) (v : Value) (ks : List Int) : Prop := W.ownsRow base 3 1 v ks.length (ks.map encZ')
theorem R.kept {W W' : World} {row : Option Nat} {base : Nat} {v : Value} {ks : List Int} (h : R W base v ks) (hg : W.grownBy W' row) (hr : v.ownBlock = none ∨ v.ownBlock ≠ row) : R W' base v ks := World.ownsRow.kept h hg hr
theorem R.base {W : World} {base base' : Nat} {v : Value} {ks : List Int} (h : R W base v ks) (hb : base' ≤ base) : R W base' v ks := row_base h hb
theorem addmid (b o j : Nat) : (⟨b, o, none⟩ : Addr).add j = ⟨b, o + j, none⟩ := by unfold Addr.add; split <;> simp_all
theorem R.cell {W : World} {base g n c : Nat} {ks : List Int} (h : R W base (.slice (some ⟨g, 0, none⟩) n c) ks) (i : Nat) (hi : i < ks.length) : W.cell? ⟨g, i, none⟩ = some (.int .i64 (ks.getD i 0)) := by
  have := World.ownsRow.cells h rfl i (.int .i64 (ks.getD i 0)) (by simp [hi, encZ', List.getD])
  rw [addmid, Nat.zero_add] at this
  exact this
theorem R.lt {W : World} {base g n c : Nat} {ks : List Int} (h : R W base (.slice (some ⟨g, 0, none⟩) n c) ks) : base ≤ g ∧ g < W.heap.size := World.ownsRow.lt h g rfl
theorem R.cap {W : World} {base g n c : Nat} {ks : List Int} (h : R W base (.slice (some ⟨g, 0, none⟩) n c) ks) : n = ks.length ∧ ks.length ≤ c := by
  rcases h.2 with ⟨h1, _⟩ | ⟨g', cap, cur, h1, _, _, h2, _⟩
  · cases h1
  · rw [Value.slice.injEq] at h1; exact ⟨h1.2.1, by omega⟩
theorem R.drew {W : World} {base : Nat} {v : Value} {ks : List Int} (h : R W base v ks) : R W.drew base v ks := h
theorem R.new (W : World) {base : Nat} (h : base ≤ W.heap.size) : R (W.alloc (.cells #[] 3)) base (.slice (some ⟨W.heap.size, 0, none⟩) 0 0) [] :=
  ⟨by simp, .inr ⟨W.heap.size, 0, #[], rfl, h, World.alloc_heap_new W _, Nat.le_refl _, by unfold maxLen; omega, by simp, by simp⟩⟩
theorem R.new2 (w : World) (o : Obj) : R ((w.alloc o).alloc (.cells #[] 3)) w.heap.size (.slice (some ⟨w.heap.size + 1, 0, none⟩) 0 0) [] := by
  have h := R.new (base := w.heap.size) (w.alloc o) (by simp)
  rwa [World.size_alloc] at h
theorem R.news_take {W : World} {base g n c : Nat} {ks : List Int} (h : R W base (.slice (some ⟨g, 0, none⟩) n c) ks) (k : Nat) : ∀ j u, ((ks.take k).map encZ')[j]? = some u → W.cell? ((⟨g, 0, none⟩ : Addr).add j) = some u := by
  intro j u hj
  refine World.ownsRow.cells h rfl j u ?_
  have : (ks.map encZ').take k = (ks.take k).map encZ' := by rw [List.map_take]
  rw [← this] at hj
  rw [List.getElem?_take] at hj
  split at hj
  · exact hj
  · cases hj
theorem R.news_drop {W : World} {base g n c : Nat} {ks : List Int} (h : R W base (.slice (some ⟨g, 0, none⟩) n c) ks) (k : Nat) : ∀ j u, ((ks.drop k).map encZ')[j]? = some u → W.cell? ((⟨g, k, none⟩ : Addr).add j) = some u := by
  intro j u hj
  have h1 := World.ownsRow.cells h rfl (k + j) u (by rw [List.map_drop, List.getElem?_drop] at hj; exact hj)
  rw [addmid, Nat.zero_add] at h1
  rw [addmid]
  exact h1
theorem ints_one (ks : List Int) : ∀ u ∈ ks.map encZ', u.oneCell' = true := by
  intro u hu
  obtain ⟨x, _, rfl⟩ := List.mem_map.1 hu
  rfl
theorem R.shape {W : World} {base : Nat} {v : Value} {ks : List Int} (h : R W base v ks) (hk : v.ownBlock ≠ none) : ∃ g c, v = .slice (some ⟨g, 0, none⟩) ks.length c := by
  rcases h.2 with ⟨rfl, _⟩ | ⟨g, cap, cur, h1, _⟩
  · exact absurd rfl hk
  · exact ⟨g, cap, h1⟩

theorem R.below {W W' : World} {base : Nat} {v : Value} {ks : List Int} (h : R W base v ks) (hb : Below W.heap.size W W') : R W' base v ks :=
  h.kept (row := none) ⟨hb.os, hb.tape, hb.output, hb.size, fun k hk _ => hb.block k hk⟩ (by cases hv : v.ownBlock <;> simp)
theorem below_grown' {B : Nat} {w U w' : World} {row : Option Nat} (h : Below B w U) (hg : U.grownBy w' row) (hB : B ≤ U.heap.size) (hr : ∀ k, row = some k → B ≤ k) : Below B w w' := by
  refine h.trans ⟨hg.os, hg.tape, hg.output, hg.size, fun k hk => hg.block k (by omega) ?_⟩
  intro e
  have := hr k e.symm
  omega
theorem gone_below {W w1 w2 : World} {o : Obj} {v1 : Value} (hg1 : (W.alloc o).drew.grownBy w1 (Value.slice (some ⟨W.heap.size, 0, none⟩) 0 0).ownBlock) (hf1 : v1.ownBlock = (Value.slice (some ⟨W.heap.size, 0, none⟩) 0 0).ownBlock ∨ v1.ownBlock = some (W.alloc o).drew.heap.size) (hg2 : w1.grownBy w2 v1.ownBlock) : Below W.heap.size W w2 := by
  have e : (W.alloc o).drew.heap.size = W.heap.size + 1 := by simp [World.drew]
  have h0 : Below W.heap.size W (W.alloc o).drew := by go_grown
  have h1 := below_grown' h0 hg1 (by omega) (fun k hk => by simp [Value.ownBlock] at hk; omega)
  refine below_grown' h1 hg2 h1.size (fun k hk => ?_)
  rcases hf1 with h | h
  · rw [h] at hk; simp [Value.ownBlock] at hk; omega
  · rw [h, e] at hk; simp at hk; omega
theorem size_le {B : Nat} {W : World} (o : Obj) (h : B ≤ W.heap.size) : B ≤ (W.alloc o).drew.heap.size := by
  have : (W.alloc o).drew.heap.size = W.heap.size + 1 := by simp [World.drew]
  omega
theorem R.gone {W w1 : World} {o : Obj} {base : Nat} {v : Value} {ks : List Int} (h : R W base v ks) (hlt : ∀ g, v.ownBlock = some g → g < W.heap.size) (hg1 : (W.alloc o).drew.grownBy w1 (Value.slice (some ⟨W.heap.size, 0, none⟩) 0 0).ownBlock) : R w1 base v ks := by
  have h1 : R (W.alloc o) base v ks := h.kept (World.grownBy_alloc W o none) (by cases hv : v.ownBlock <;> simp)
  refine R.kept (R.drew h1) hg1 ?_
  cases hv : v.ownBlock with
  | none => exact .inl rfl
  | some g =>
    refine .inr fun e => ?_
    have := hlt g hv
    simp [Value.ownBlock] at e
    omega
theorem len6 {a : Nat} (h : a ≤ 6) : a ≤ maxLen := by unfold maxLen; omega

theorem six_at (W : World) : R (W.alloc (.cells #[.int .i64 1, .int .i64 2, .int .i64 3, .int .i64 4, .int .i64 5, .int .i64 6] 3)) W.heap.size (.slice (some ⟨W.heap.size, 0, none⟩) 6 6) [1, 2, 3, 4, 5, 6] :=
  ⟨by simp, .inr ⟨W.heap.size, 6, _, rfl, Nat.le_refl _, World.alloc_heap_new W _, by simp, by unfold maxLen; omega, by simp, by rfl⟩⟩

set_option maxRecDepth 100000 in
set_option maxHeartbeats 4000000 in
theorem sOrder_any (n : Int) (w : World) (hn : -9223372036854775808 ≤ n ∧ n ≤ 9223372036854775807) :
    Calls Try.prog 7 #[.int .i64 n] w fun e w' => ∃ v, e = .returned v ∧ R w' w.heap.size v (ordI n) ∧ Below w.heap.size w w' := by
  obtain ⟨inf3, i1, i2, i3, i4⟩ := info_parts info3
  have I1 := hide i1
  have I2 := hide i2
  have I3 := hide i3
  have I4 := hide i4
  clear i1 i2 i3 i4
  have hr9 : restOf n ≤ 9223372036854775807 := by unfold restOf; split <;> omega
  have hnr : IntKind.i64.wrap n = n := IntWalk.i64_in n hn
  go_enter Try.func7, Try.ntmps7
  go_wp2
  all_goals
    have hr6 : (restOf n : Int) = (if n < 0 then -(n + 1) else n) := by unfold restOf; split <;> omega
    first
      | (have hneg : n < 0 := by assumption
         rw [if_pos hneg] at hr6
         rw [decide_eq_true hneg]
         clear hneg)
      | rw [if_neg (by omega)] at hr6
    go_loopw [0, 3, 4] (fun e0 el eo wr => ∃ (r : Nat) (ks out : List Int) (gl cl go co : Nat), e0 = .int .i64 (r : Int) ∧ el = .slice (some ⟨gl, 0, none⟩) ks.length cl ∧ eo = .slice (some ⟨go, 0, none⟩) out.length co ∧ r ≤ 9223372036854775807 ∧ out.length + ks.length = 6 ∧ out ++ ordF ks.length ks r = ordI n ∧ R wr w.heap.size (.slice (some ⟨gl, 0, none⟩) ks.length cl) ks ∧ R wr w.heap.size (.slice (some ⟨go, 0, none⟩) out.length co) out ∧ gl ≠ go ∧ Below w.heap.size w wr) (fun _ el _ _ => lenV el)
    case atStart =>
      exact ⟨restOf n, [1, 2, 3, 4, 5, 6], [], w.heap.size, 6, w.heap.size + 1, 0, by rw [hr6], rfl, rfl, hr9, rfl, rfl, R.kept (six_at w) (World.grownBy_alloc _ _ none) (.inr (by simp [Value.ownBlock])), R.new2 w _, by omega, ((Below.refl _ w).alloc (Nat.le_refl _) _).alloc (by simp) _⟩
    case round =>
      obtain ⟨r, ks, out, gl, cl, go, co, rfl, rfl, rfl, hr, hlen, hpre, hL, hO, hne, hb⟩ := hrel
      cases hks : ks.length with
      | zero =>
        have hk0 : ks = [] := List.length_eq_zero_iff.1 hks
        subst hk0
        have HO := hide hO
        have HB := hide hb
        have HP := hide hpre
        clear hO hb hpre hL hlen
        go_wp2
        go_ret
        have he : out = ordI n := by rw [← HP.out]; simp [ordF]
        exact ⟨_, rfl, by rw [← he]; exact HO.out, HB.out⟩
      | succ k =>
        obtain ⟨p, hpe⟩ : ∃ p, r % (k + 1) = p := ⟨_, rfl⟩
        obtain ⟨x, hx⟩ : ∃ x, ks.getD p 0 = x := ⟨_, rfl⟩
        have hp : p < k + 1 := by rw [← hpe]; exact Nat.mod_lt _ (Nat.succ_pos k)
        have hpr : p ≤ r := by rw [← hpe]; exact Nat.mod_le _ _
        have hcx : wr.cell? ⟨gl, p, none⟩ = some (.int .i64 x) := by rw [← hx]; exact hL.cell p (by omega)
        have hmod : ((r : Int).tmod ((k : Int) + 1)) = (p : Int) := by rw [← hpe]; rfl
        have hmodw : IntKind.i64.wrap (p : Int) = (p : Int) := IntWalk.i64_in _ (by omega)
        have hglt := hL.lt.2
        have hcap := hL.cap.2
        have HL := hide hL
        have HO := hide hO
        have HB := hide hb
        have HP := hide hpre
        have HX := hide hx
        have HPE := hide hpe
        have hol : out.length + 1 ≤ 6 := by omega
        have hsz : w.heap.size ≤ wr.heap.size := hb.size
        clear hO hb hpre hL hx hpe
        go_wp2_with (refine wpList_append_own_at _ (by rfl) _ _ _ (by rfl) w.heap.size 3 inf3 _ 1 8 Try.underlying24 I1.out I2.out I3.out I4.out (by rfl) (by omega) (.slice (some ⟨go, 0, none⟩) out.length co) out.length (out.map encZ') (by rfl) (World.ownsRow.alloc HO.out _) _ 1 1 [.int .i64 x] (by rfl) (by rfl) (cell_one_new _ _ _) (by intro u hu; simp at hu; subst hu; rfl) (len6 hol) (by omega) (by simp; omega) ?_; intro vd W5 hown' hgrow hnil hfr; obtain ⟨g2, c2, rfl⟩ := ownsRow_succ hown')
        have hL5 : R W5 w.heap.size (.slice (some ⟨gl, 0, none⟩) (k + 1) cl) ks := by
          have h1 := HL.out.kept (World.grownBy_alloc wr (.cells #[.int .i64 x] 3) none) (.inr (by simp [Value.ownBlock]))
          rw [← hks]
          exact h1.kept hgrow (.inr (by simp [Value.ownBlock]; exact fun e => hne e))
        have hO5 : R W5 w.heap.size (.slice (some ⟨g2, 0, none⟩) (out ++ [x]).length c2) (out ++ [x]) := by
          unfold R
          rw [List.map_append, List.length_append]
          exact hown'
        have hne5 : gl ≠ g2 := by
          rcases hfr with h | h
          · simp [Value.ownBlock] at h; omega
          · simp [Value.ownBlock] at h; omega
        have hB5 : Below w.heap.size w W5 := below_grown' (HB.out.alloc HB.out.size _) hgrow (by simp; omega) (fun g e => by simp [Value.ownBlock] at e; have := HO.out.lt.1; omega)
        have hgl5 : gl < W5.heap.size := hL5.lt.2
        have hBW : W5.heap.size ≤ W5.heap.size := Nat.le_refl _
        have hs5 : w.heap.size ≤ W5.heap.size := hB5.size
        have HL5 := hide hL5
        have HO5 := hide hO5
        have HB5 := hide hB5
        have hk1 : (p : Int) + 1 ≤ (k : Int) + 1 := by omega
        have hwr : IntKind.i64.wrap ((p : Int) + 1) = (p : Int) + 1 := IntWalk.i64_in _ (by omega)
        have hk2 : (0 : Int) ≤ (p : Int) + 1 := by omega
        have hkc : (p : Int) ≤ (cl : Int) := by omega
        obtain ⟨ad, had, hadc⟩ : ∃ ad : Addr, (if cl = p + 1 then some (⟨gl, 0, none⟩ : Addr) else some ⟨gl, p + 1, none⟩) = some ad ∧ ∀ W', R W' w.heap.size (.slice (some ⟨gl, 0, none⟩) (k + 1) cl) ks → ∀ j u, ((ks.drop (p + 1)).map encZ')[j]? = some u → W'.cell? (ad.add j) = some u := by
          by_cases hc : cl = p + 1
          · refine ⟨_, if_pos hc, fun W' _ j u hj => ?_⟩
            rw [List.drop_of_length_le (by omega)] at hj
            simp at hj
          · exact ⟨_, if_neg hc, fun W' h => h.news_drop (p + 1)⟩
        have HADC := hide hadc
        clear hadc hL5 hO5 hB5 hown' hgrow hfr hnil
        go_region_law (first
          | (refine step_append_at rfl (.tmp 31) (.tmp 34) 24 rfl W5.heap.size 3 inf3 _ 1 8 Try.underlying24 I1.out I2.out I3.out I4.out rfl (by omega) (.slice (some ⟨W5.heap.size, 0, none⟩) 0 0) 0 [] ?a1 ?a2 ⟨gl, 0, none⟩ p cl ((ks.take p).map encZ') ?a3 ?a4 ?a5 ?a6 ?a7 ?a8 ?a9 ?_; (case a1 => rfl); (case a2 => exact R.new W5 hBW); (case a3 => rfl); (case a4 => simp; omega); (case a5 => exact (HL5.out.kept (World.grownBy_alloc W5 _ none) (.inr (by simp [Value.ownBlock]))).news_take p); (case a6 => exact ints_one _); (case a7 => exact len6 (by omega)); (case a8 => omega); (case a9 => exact size_le _ hBW); intro v1 w1 hown1 hgrow1 hfr1; have hN1 : R w1 w.heap.size (.slice (some ⟨gl, 0, none⟩) (k + 1) cl) ks := HL5.out.gone (fun g e => by simp [Value.ownBlock] at e; omega) hgrow1)
          | (refine step_append_at rfl (.tmp 35) (.tmp 39) 24 rfl W5.heap.size 3 inf3 _ 1 8 Try.underlying24 I1.out I2.out I3.out I4.out rfl (by omega) v1 (0 + p) ([] ++ (ks.take p).map encZ') ?b1 ?b2 ad (k + 1 - (p + 1)) (cl - (p + 1)) ((ks.drop (p + 1)).map encZ') ?b3 ?b4 ?b5 ?b6 ?b7 ?b8 ?b9 ?_; (case b1 => rfl); (case b2 => exact hown1); (case b3 => first | rfl | (simp [Act.eval, *])); (case b4 => simp [hks]); (case b5 => exact HADC.out _ hN1); (case b6 => exact ints_one _); (case b7 => exact len6 (by omega)); (case b8 => omega); (case b9 => have := hgrow1.size; have := size_le (W := W5) (.cells #[] 3) hBW; omega); intro v2 w2 hown2 hgrow2 hfr2))
        have hbb := gone_below hgrow1 hfr1 hgrow2
        have hn2 : v2.ownBlock ≠ none := by
          intro h0
          rcases hfr2 with h | h
          · rw [h0] at h
            rcases hfr1 with h' | h'
            · rw [h'] at h; simp [Value.ownBlock] at h
            · rw [h'] at h; cases h
          · rw [h0] at h; cases h
        have hO2 : R w2 W5.heap.size v2 (ks.take p ++ ks.drop (p + 1)) := by
          unfold R
          have e : (ks.take p ++ ks.drop (p + 1)).length = 0 + p + (k + 1 - (p + 1)) := by simp [hks]; omega
          rw [e, List.map_append]
          exact hown2
        obtain ⟨g3, c3, hv2⟩ := hO2.shape hn2
        have hlk : (ks.take p ++ ks.drop (p + 1)).length = k := by rw [cut_length ks p (by omega), hks]; rfl
        subst hv2
        have hglt3 := hO2.lt
        have hg2 := HO5.out.lt.2
        have hquo : wrap64 ((r : Int) / ((k : Int) + 1)) = ((r / (k + 1) : Nat) : Int) := by
          have h1 : r / (k + 1) ≤ r := Nat.div_le_self _ _
          have h2 : (r : Int) / ((k : Int) + 1) = ((r / (k + 1) : Nat) : Int) := by simp
          rw [h2]
          have h3 : r / (k + 1) ≤ 9223372036854775807 := Nat.le_trans h1 hr
          generalize r / (k + 1) = y at h3 ⊢
          unfold wrap64; omega
        have hrel' : ∃ (r1 : Nat) (ks1 out1 : List Int) (gl1 cl1 go1 co1 : Nat), Value.int .i64 (wrap64 ((r : Int) / ((k : Int) + 1))) = .int .i64 (r1 : Int) ∧ Value.slice (some ⟨g3, 0, none⟩) (ks.take p ++ ks.drop (p + 1)).length c3 = .slice (some ⟨gl1, 0, none⟩) ks1.length cl1 ∧ Value.slice (some ⟨g2, 0, none⟩) (out.length + 1) c2 = .slice (some ⟨go1, 0, none⟩) out1.length co1 ∧ r1 ≤ 9223372036854775807 ∧ out1.length + ks1.length = 6 ∧ out1 ++ ordF ks1.length ks1 r1 = ordI n ∧ R w2 w.heap.size (.slice (some ⟨gl1, 0, none⟩) ks1.length cl1) ks1 ∧ R w2 w.heap.size (.slice (some ⟨go1, 0, none⟩) out1.length co1) out1 ∧ gl1 ≠ go1 ∧ Below w.heap.size w w2 :=
          ⟨r / (k + 1), ks.take p ++ ks.drop (p + 1), out ++ [x], g3, c3, g2, c2, by rw [hquo], rfl, by simp, Nat.le_trans (Nat.div_le_self _ _) hr, by rw [hlk, List.length_append]; simp; omega,
            by have h := HP.out; rw [hks, ordF, HPE.out, HX.out] at h; rw [hlk]; simpa using h, hO2.base hs5, HO5.out.below hbb, by omega, HB5.out.trans (hbb.mono hs5)⟩
        have hms : lenV (.slice (some ⟨g3, 0, none⟩) (ks.take p ++ ks.drop (p + 1)).length c3) < lenV (.slice (some ⟨gl, 0, none⟩) (k + 1) cl) := by simp only [lenV]; omega
        have HREL := hide hrel'
        have HMS := hide hms
        clear hrel' hms hquo hlk hO2 hbb hown1 hown2 hgrow1 hgrow2 hfr1 hfr2 hN1 hn2 hglt3 hg2
        go_wp2
        try dsimp only [Exit.then, Exit.inBlock]
        first
          | exact ⟨HREL.out, HMS.out⟩
          | exact ⟨⟨_, _, _, _, _, _, _, _, _, _, _, _, _, _, _, _, _, _, _, _, _, _, _, _, _, _, _, _, _, _, _, _, HREL.out, rfl⟩, HMS.out⟩
end Go.Proofs.Ytllcpchojjlnhaa
