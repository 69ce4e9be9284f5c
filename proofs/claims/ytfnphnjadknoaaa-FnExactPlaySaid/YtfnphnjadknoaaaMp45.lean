/- laws.Pool, opened; a row of flags. -/
import Derived.Test.YtfnphnjadknoaaaMp0
import Derived.Test.YtfnphnjadknoaaaMp1
import Derived.Test.YtfnphnjadknoaaaMp5
import Derived.Test.YtfnphnjadknoaaaMp8
import Derived.Deep.Slices
import Derived.Deep.Fields
import Derived.OpenShut
import Derived.ProofKit
import Derived.Lib.SmallJoins
import Derived.Test.YtfnphnjadknoaaaRows
namespace Go.Proofs.Ytfnphnjadknoaaa
open Go.RowKit Go.Joins Go.ChangeShapes Go.WideShapes Go.Deep

theorem choose_list {α : Type} (d : α) (n : Nat) (R : Nat → α → Prop) (h : ∀ i, i < n → ∃ x, R i x) : ∃ l : List α, l.length = n ∧ ∀ i, i < n → R i (l.getD i d) := by
  induction n with
  | zero => exact ⟨[], rfl, fun i hi => by omega⟩
  | succ n ih =>
    obtain ⟨l, hl, hr⟩ := ih (fun i hi => h i (by omega))
    obtain ⟨x, hx⟩ := h n (by omega)
    refine ⟨l ++ [x], by simp [hl], fun i hi => ?_⟩
    by_cases e : i < n
    · have := hr i e
      rwa [List.getD_eq_getElem?_getD, List.getElem?_append_left (by omega), ← List.getD_eq_getElem?_getD]
    · obtain rfl : i = n := by omega
      rw [List.getD_eq_getElem?_getD, List.getElem?_append_right (by omega), hl]
      simpa using hx

theorem cell_lt {w : World} {a : Addr} {v : Value} (h : w.cell? a = some v) : a.block < w.heap.size := by
  rcases Nat.lt_or_ge a.block w.heap.size with hlt | hge
  · exact hlt
  · unfold World.cell? at h; rw [Array.getElem?_eq_none hge] at h; cases h

section
variable {H : Type} {enc : TypeId × Value → H} {P : Program} {w : World} {spare : Nat → Bool} {held : Bool}

theorem trod_ints {t e : TypeId} {fuel : Nat} {v : Value} {x : DataW H × List MemPlace} (ht : P.underlying t = some (.slice e)) (he : P.underlying e = some (.int .i64)) (hc : P.cellsOf e = 1)
    (h : DataW.trod enc P w 0 spare held fuel t [v] = some x) : ∃ A zs c, v = .slice A (zs : List Int).length c ∧ zs.length ≤ c ∧ IntsAt w (Old w.heap.size) A zs := by
  rcases open_ints ht he hc h with ⟨hcs, _⟩ | ⟨a, len, cap, zs, hcs, _, hl, hm, hz, _, hcell, _⟩
  · simp only [List.cons.injEq, and_true] at hcs
    exact ⟨none, [], 0, hcs, by simp, by simp, fun h => absurd h (by simp)⟩
  · simp only [List.cons.injEq, and_true] at hcs
    have hlen : len ≤ zs.length := by rw [hz]; split <;> omega
    have htl : (zs.take len).length = len := by rw [List.length_take]; omega
    unfold maxLen at hm
    refine ⟨some a, zs.take len, cap, by rw [htl]; exact hcs, by omega, by omega, fun hp => ?_⟩
    rw [htl] at hp ⊢
    obtain ⟨b, off, rfl, hat⟩ := ints_at hcell (by omega)
    refine ⟨b, off, rfl, cell_lt (hat 0 (by omega)), fun k hk => ?_⟩
    rw [hat k (by omega)]
    unfold geti
    rw [List.getD_eq_getElem?_getD, List.getD_eq_getElem?_getD, List.getElem?_take_of_lt hk]

theorem add_plain' (b off k : Nat) : (⟨b, off, none⟩ : Addr).add k = ⟨b, off + k, none⟩ := by
  unfold Addr.add; split
  · subst_vars; rfl
  · rfl
theorem spot_none {a : Addr} {v : Value} (h : w.cell? a = some v) : ∃ b off, a = ⟨b, off, none⟩ := by
  obtain ⟨b, off, spot⟩ := a
  have := World.cell?_spot h
  simp at this
  subst this
  exact ⟨b, off, rfl⟩

theorem trod_inss {t e ti : TypeId} {f0 f1 f2 f3 f4 f5 : Field} {fuel : Nat} {v : Value} {x : DataW H × List MemPlace} (ht : P.underlying t = some (.slice e)) (he : P.underlying e = some (.struct #[f0, f1, f2, f3, f4, f5])) (hone : oneCellFields P #[f0, f1, f2, f3, f4, f5] = true) (hC : P.cellsOf e = 6)
    (hf : f0.type = ti ∧ f1.type = ti ∧ f2.type = ti ∧ f3.type = ti ∧ f4.type = ti ∧ f5.type = ti) (hti : P.underlying ti = some (.int .i64))
    (h : DataW.trod enc P w 0 spare held fuel t [v] = some x) : ∃ A l c, v = .slice A (l : List InsD).length c ∧ l.length ≤ c ∧ InssAt w (Old w.heap.size) A l := by
  rcases open_slice ht h with ⟨hcs, _⟩ | ⟨a, len, cap, m, n, D, Pl, hcs, _, hl, hm, hmm, _, hi⟩
  · simp only [List.cons.injEq, and_true] at hcs
    exact ⟨none, [], 0, hcs, by simp, by simp, fun h => absurd h (by simp)⟩
  · simp only [List.cons.injEq, and_true] at hcs
    have hlm : len ≤ m := by rw [hmm]; split <;> omega
    unfold maxLen at hm
    have each : ∀ i, i < len → ∃ d : InsD, ∀ j v, [Value.int .i64 d.o, .int .i64 d.r, .int .i64 d.a, .int .i64 d.b, .int .i64 d.x, .int .i64 d.n][j]? = some v → w.cell? ((a.add (i * 6)).add j) = some v := by
      intro i hil
      obtain ⟨cs', hc, ht'⟩ := hi i (by omega)
      rw [hC] at hc
      obtain ⟨_, hcl, hat⟩ := World.cells?_some hc
      obtain ⟨ys, n', _, _, _, hyl, hfs⟩ := DataW.trod_struct he ht'
      match cs', hcl with
      | [c0, c1, c2, c3, c4, c5], _ =>
        obtain ⟨o0, k0⟩ := hone_of hone 0 f0 rfl
        obtain ⟨o1, k1⟩ := hone_of hone 1 f1 rfl
        obtain ⟨o2, k2⟩ := hone_of hone 2 f2 rfl
        obtain ⟨o3, k3⟩ := hone_of hone 3 f3 rfl
        obtain ⟨o4, k4⟩ := hone_of hone 4 f4 rfl
        obtain ⟨o5, k5⟩ := hone_of hone 5 f5 rfl
        match ys, hyl with
        | [y0, y1, y2, y3, y4, y5], _ =>
          have g0 := hfs 0 f0 rfl; rw [o0, k0, hf.1] at g0
          have g1 := hfs 1 f1 rfl; rw [o1, k1, hf.2.1] at g1
          have g2 := hfs 2 f2 rfl; rw [o2, k2, hf.2.2.1] at g2
          have g3 := hfs 3 f3 rfl; rw [o3, k3, hf.2.2.2.1] at g3
          have g4 := hfs 4 f4 rfl; rw [o4, k4, hf.2.2.2.2.1] at g4
          have g5 := hfs 5 f5 rfl; rw [o5, k5, hf.2.2.2.2.2] at g5
          obtain ⟨a0, t0, _, _⟩ := DataW.trod_int hti (x := y0) (by simpa using g0)
          obtain ⟨a1, t1, _, _⟩ := DataW.trod_int hti (x := y1) (by simpa using g1)
          obtain ⟨a2, t2, _, _⟩ := DataW.trod_int hti (x := y2) (by simpa using g2)
          obtain ⟨a3, t3, _, _⟩ := DataW.trod_int hti (x := y3) (by simpa using g3)
          obtain ⟨a4, t4, _, _⟩ := DataW.trod_int hti (x := y4) (by simpa using g4)
          obtain ⟨a5, t5, _, _⟩ := DataW.trod_int hti (x := y5) (by simpa using g5)
          simp only [List.cons.injEq, and_true] at t0 t1 t2 t3 t4 t5
          subst t0 t1 t2 t3 t4 t5
          refine ⟨⟨a0, a1, a2, a3, a4, a5⟩, fun j v hj => ?_⟩
          have hj6 : j < 6 := by
            have := (List.getElem?_eq_some_iff.1 hj).1
            simpa using this
          rw [hat j hj6]
          exact hj
    obtain ⟨l, hll, hlr⟩ := choose_list ins0 len _ each
    refine ⟨some a, l, cap, by rw [hll]; exact hcs, by omega, by omega, fun hp => ?_⟩
    rw [hll] at hp ⊢
    obtain ⟨b, off, rfl⟩ : ∃ b off, a = ⟨b, off, none⟩ := by
      have := hlr 0 hp 0 _ rfl
      simp only [Nat.zero_mul] at this
      exact spot_none (v := _) (by simpa [Addr.add] using this)
    have h0 := hlr 0 hp 0 _ rfl
    refine ⟨b, off, rfl, ?_, fun k hk => ?_⟩
    · have := cell_lt h0
      exact (by simpa [Addr.add] using this : b < w.heap.size)
    · have q := hlr k hk
      simp only [add_plain'] at q
      exact ⟨q 0 _ rfl, q 1 _ rfl, q 2 _ rfl, q 3 _ rfl, q 4 _ rfl, q 5 _ rfl⟩

theorem trod_threads {t e ts es ti : TypeId} {g f0 f1 f2 f3 f4 f5 : Field} {fuel : Nat} {v : Value} {x : DataW H × List MemPlace} (ht : P.underlying t = some (.slice e)) (he : P.underlying e = some (.struct #[g])) (hone1 : oneCellFields P #[g] = true) (hC1 : P.cellsOf e = 1) (hg : g.type = ts)
    (hts : P.underlying ts = some (.slice es)) (hes : P.underlying es = some (.struct #[f0, f1, f2, f3, f4, f5])) (hone : oneCellFields P #[f0, f1, f2, f3, f4, f5] = true) (hC : P.cellsOf es = 6)
    (hf : f0.type = ti ∧ f1.type = ti ∧ f2.type = ti ∧ f3.type = ti ∧ f4.type = ti ∧ f5.type = ti) (hti : P.underlying ti = some (.int .i64))
    (h : DataW.trod enc P w 0 spare held fuel t [v] = some x) : ∃ A l c, v = .slice A (l : List (List InsD)).length c ∧ l.length ≤ c ∧ ThreadsAt w (Old w.heap.size) A l := by
  rcases open_slice ht h with ⟨hcs, _⟩ | ⟨a, len, cap, m, n, D, Pl, hcs, _, hl, hm, hmm, _, hi⟩
  · simp only [List.cons.injEq, and_true] at hcs
    exact ⟨none, [], 0, hcs, by simp, by simp, fun h => absurd h (by simp)⟩
  · simp only [List.cons.injEq, and_true] at hcs
    have hlm : len ≤ m := by rw [hmm]; split <;> omega
    unfold maxLen at hm
    have each : ∀ i, i < len → ∃ l : List InsD, ∃ A' c', w.cell? (a.add i) = some (.slice A' l.length c') ∧ l.length ≤ c' ∧ InssAt w (Old w.heap.size) A' l := by
      intro i hil
      obtain ⟨cs', hc, ht'⟩ := hi i (by omega)
      rw [hC1, Nat.mul_one] at hc
      obtain ⟨_, hcl, hat⟩ := World.cells?_some hc
      obtain ⟨ys, n', _, _, _, hyl, hfs⟩ := DataW.trod_struct he ht'
      match cs', hcl with
      | [c0], _ =>
        obtain ⟨o0, k0⟩ := hone_of hone1 0 g rfl
        match ys, hyl with
        | [y0], _ =>
          have g0 := hfs 0 g rfl
          rw [o0, k0, hg] at g0
          obtain ⟨A', l, c', e1, e3, e2⟩ := trod_inss hts hes hone hC hf hti (x := y0) (by simpa using g0)
          refine ⟨l, A', c', ?_, e3, e2⟩
          have := hat 0 (by omega)
          simpa [Addr.add, e1] using this
    obtain ⟨l, hll, hlr⟩ := choose_list [] len _ each
    refine ⟨some a, l, cap, by rw [hll]; exact hcs, by omega, by omega, fun hp => ?_⟩
    rw [hll] at hp ⊢
    obtain ⟨A0, c0, h0, _⟩ := hlr 0 hp
    obtain ⟨b, off, rfl⟩ : ∃ b off, a = ⟨b, off, none⟩ := spot_none (v := _) (by simpa [Addr.add] using h0)
    refine ⟨b, off, rfl, ?_, fun k hk => ?_⟩
    · have := cell_lt h0
      exact (by simpa [Addr.add] using this : b < w.heap.size)
    · obtain ⟨A', c', q1, q3, q2⟩ := hlr k hk
      rw [add_plain'] at q1
      exact ⟨A', c', q1, q3, q2⟩
end

section
variable {H : Type} {enc : TypeId × Value → H} {P : Program} {w : World} {base : Nat} {spare : Nat → Bool} {held : Bool}
theorem open_agg1 {r : Reach} {b0 : Nat} {t : TypeId} {f0 : Field} {v : Value} {d : DataW H} {p : List MemPlace} (hs : P.underlying t = some (.struct #[f0])) (hone : oneCellFields P #[f0] = true) (hC : P.cellsOf t = 1)
    (hv : Value.okWide P w r b0 t v) (h : DataW.Trod enc P w base spare held t v d p) :
    ∃ (v0 : Value) (y0 : DataW H × List MemPlace) (n : Nat), v = .agg #[v0] ∧ DataW.trod enc P w base spare held n f0.type [v0] = some y0 := by
  obtain ⟨cs, rfl, hsz⟩ := okWide_struct hs hv
  obtain ⟨l⟩ := cs
  match l, hsz.trans hC with
  | [c0], _ =>
    obtain ⟨fuel, hf⟩ := h
    obtain ⟨xs, n, _, hx, _, hlen, hg⟩ := DataW.trod_struct hs hf
    obtain ⟨o0, k0⟩ := hone_of hone 0 f0 rfl
    match xs, hlen with
    | [y0], _ =>
      exact ⟨c0, y0, n, rfl, by simpa [Value.cells, o0, k0] using hg 0 f0 rfl⟩
end

section
variable {H : Type} {enc : TypeId × Value → H} {P : Program} {w : World} {spare : Nat → Bool} {held : Bool}
theorem trod_flat {t e ti : TypeId} {fs : Array Field} {k : Nat} {fuel : Nat} {v : Value} {x : DataW H × List MemPlace} (ht : P.underlying t = some (.slice e)) (he : P.underlying e = some (.struct fs)) (hone : oneCellFields P fs = true) (hC : P.cellsOf e = k) (hk0 : 0 < k)
    (hk : fs.size = k) (hf : ∀ (i : Nat) (f : Field), fs[i]? = some f → f.type = ti) (hti : P.underlying ti = some (.int .i64))
    (h : DataW.trod enc P w 0 spare held fuel t [v] = some x) : ∃ A n c, v = .slice A n c ∧ n ≤ c ∧ n ≤ 9223372036854775807 ∧ (n * k ≤ 9223372036854775807 → ∃ zs : List Int, zs.length = n * k ∧ IntsAt w (Old w.heap.size) A zs) := by
  rcases open_slice ht h with ⟨hcs, _⟩ | ⟨a, len, cap, m, n, D, Pl, hcs, _, hl, hm, hmm, _, hi⟩
  · simp only [List.cons.injEq, and_true] at hcs
    exact ⟨none, 0, 0, hcs, Nat.le_refl _, by omega, fun _ => ⟨[], by simp, by simp, fun h => absurd h (by simp)⟩⟩
  · simp only [List.cons.injEq, and_true] at hcs
    have hlm : len ≤ m := by rw [hmm]; split <;> omega
    unfold maxLen at hm
    have each : ∀ i, i < len → ∀ j, j < k → ∃ y : Int, w.cell? ((a.add (i * k)).add j) = some (.int .i64 y) := by
      intro i hil j hj
      obtain ⟨cs', hc, ht'⟩ := hi i (by omega)
      rw [hC] at hc
      obtain ⟨_, hcl, hat⟩ := World.cells?_some hc
      obtain ⟨ys, n', _, _, _, hyl, hfs⟩ := DataW.trod_struct he ht'
      obtain ⟨f, hfj⟩ : ∃ f, fs[j]? = some f := ⟨_, Array.getElem?_eq_getElem (by omega)⟩
      obtain ⟨o0, k0⟩ := hone_of hone j f hfj
      have g0 := hfs j f hfj
      rw [k0, o0, hf j f hfj] at g0
      obtain ⟨c0, hc0⟩ : ∃ c, cs'[j]? = some c := ⟨_, List.getElem?_eq_getElem (by omega)⟩
      have e0 : (cs'.drop j).take 1 = [c0] := by
        have hj2 : j < cs'.length := by omega
        rw [List.drop_eq_getElem_cons hj2, List.take_succ_cons, List.take_zero]
        rw [List.getElem?_eq_getElem hj2] at hc0
        cases hc0
        rfl
      rw [e0] at g0
      obtain ⟨y, hy⟩ : ∃ y, ys[j]? = some y := ⟨_, List.getElem?_eq_getElem (by omega)⟩
      rw [hy] at g0
      obtain ⟨a0, t0, _, _⟩ := DataW.trod_int hti g0
      simp only [List.cons.injEq, and_true] at t0
      subst t0
      exact ⟨a0, by rw [hat j hj]; exact hc0⟩
    obtain ⟨zs, hzl, hzr⟩ := choose_list (0 : Int) (len * k) (fun q y => w.cell? ((a.add (q / k * k)).add (q % k)) = some (.int .i64 y)) (fun q hq => each (q / k) ((Nat.div_lt_iff_lt_mul hk0).2 hq) (q % k) (Nat.mod_lt _ hk0))
    refine ⟨some a, len, cap, hcs, by omega, by omega, fun hlen => ⟨zs, hzl, by rw [hzl]; exact hlen, fun hp => ?_⟩⟩
    obtain ⟨b, off, rfl⟩ : ∃ b off, a = ⟨b, off, none⟩ := by
      have h0 := hzr 0 (by omega)
      simp only [Nat.zero_div, Nat.zero_mul, Nat.zero_mod] at h0
      exact spot_none (v := .int .i64 (zs.getD 0 0)) (by simpa [Addr.add] using h0)
    have hall : ∀ q, q < zs.length → w.cell? ⟨b, off + q, none⟩ = some (.int .i64 (geti zs q)) := fun q hq => by
      have h1 := hzr q (by omega)
      rw [add_plain', add_plain', Nat.add_assoc, Nat.div_add_mod'] at h1
      exact h1
    exact ⟨b, off, rfl, cell_lt (hall 0 hp), hall⟩
end
end Go.Proofs.Ytfnphnjadknoaaa

namespace Go.Proofs.Ytfnphnjadknoaaa
open Go.RowKit Go.Joins Go.ChangeShapes Go.WideShapes Go.Deep

section
variable {H : Type} {enc : TypeId × Value → H} {P : Program} {w : World} {spare : Nat → Bool} {held : Bool}
theorem trod_ints_wf {t e : TypeId} {fuel : Nat} {v : Value} {x : DataW H × List MemPlace} (ht : P.underlying t = some (.slice e)) (he : P.underlying e = some (.int .i64)) (hc : P.cellsOf e = 1)
    (h : DataW.trod enc P w 0 spare held fuel t [v] = some x) : ∃ A zs c, v = .slice A (zs : List Int).length c ∧ zs.length ≤ c ∧ IntsAt w (Old w.heap.size) A zs ∧ IntsWf zs := by
  rcases open_ints ht he hc h with ⟨hcs, _⟩ | ⟨a, len, cap, zs, hcs, _, hl, hm, hz, _, hcell, hwf⟩
  · simp only [List.cons.injEq, and_true] at hcs
    exact ⟨none, [], 0, hcs, by simp, ⟨by simp, fun h => absurd h (by simp)⟩, fun k hk => absurd hk (by simp)⟩
  · simp only [List.cons.injEq, and_true] at hcs
    have hlen : len ≤ zs.length := by rw [hz]; split <;> omega
    have htl : (zs.take len).length = len := by rw [List.length_take]; omega
    unfold maxLen at hm
    refine ⟨some a, zs.take len, cap, by rw [htl]; exact hcs, by omega, ⟨by omega, fun hp => ?_⟩, fun k hk => ?_⟩
    · rw [htl] at hp ⊢
      obtain ⟨b, off, rfl, hat⟩ := ints_at hcell (by omega)
      refine ⟨b, off, rfl, cell_lt (hat 0 (by omega)), fun k hk => ?_⟩
      rw [hat k (by omega)]
      unfold geti
      rw [List.getD_eq_getElem?_getD, List.getD_eq_getElem?_getD, List.getElem?_take_of_lt hk]
    · unfold geti
      rw [List.getD_eq_getElem?_getD, List.getElem?_eq_getElem hk]
      exact hwf _ (List.mem_of_mem_take (List.getElem_mem hk))
theorem trod_heads {α : Type} (d0 : α) (R : α → Value → Prop) {t e ts : TypeId} {g : Field} {fuel : Nat} {v : Value} {x : DataW H × List MemPlace} (ht : P.underlying t = some (.slice e)) (he : P.underlying e = some (.struct #[g])) (hone1 : oneCellFields P #[g] = true) (hC1 : P.cellsOf e = 1) (hg : g.type = ts)
    (inner : ∀ (n : Nat) (c0 : Value) (y0 : DataW H × List MemPlace), DataW.trod enc P w 0 spare held n ts [c0] = some y0 → ∃ a, R a c0)
    (h : DataW.trod enc P w 0 spare held fuel t [v] = some x) : ∃ A l c, v = .slice A (l : List α).length c ∧ l.length ≤ c ∧ l.length ≤ 9223372036854775807 ∧ (0 < l.length → ∃ b off, A = some ⟨b, off, none⟩ ∧ b < w.heap.size ∧ ∀ k, k < l.length → ∃ c0, w.cell? ⟨b, off + k, none⟩ = some c0 ∧ R (l.getD k d0) c0) := by
  rcases open_slice ht h with ⟨hcs, _⟩ | ⟨a, len, cap, m, n, D, Pl, hcs, _, hl, hm, hmm, _, hi⟩
  · simp only [List.cons.injEq, and_true] at hcs
    exact ⟨none, [], 0, hcs, by simp, by simp, fun h => absurd h (by simp)⟩
  · simp only [List.cons.injEq, and_true] at hcs
    have hlm : len ≤ m := by rw [hmm]; split <;> omega
    unfold maxLen at hm
    have each : ∀ i, i < len → ∃ r : α, ∃ c0, w.cell? (a.add i) = some c0 ∧ R r c0 := by
      intro i hil
      obtain ⟨cs', hc, ht'⟩ := hi i (by omega)
      rw [hC1, Nat.mul_one] at hc
      obtain ⟨_, hcl, hat⟩ := World.cells?_some hc
      obtain ⟨ys, n', _, _, _, hyl, hfs⟩ := DataW.trod_struct he ht'
      match cs', hcl with
      | [c0], _ =>
        obtain ⟨o0, k0⟩ := hone_of hone1 0 g rfl
        match ys, hyl with
        | [y0], _ =>
          have g0 := hfs 0 g rfl
          rw [o0, k0, hg] at g0
          obtain ⟨r, hr⟩ := inner _ c0 y0 (by simpa using g0)
          refine ⟨r, c0, ?_, hr⟩
          have := hat 0 (by omega)
          simpa [Addr.add] using this
    obtain ⟨l, hll, hlr⟩ := choose_list d0 len _ each
    refine ⟨some a, l, cap, by rw [hll]; exact hcs, by omega, by omega, fun hp => ?_⟩
    rw [hll] at hp ⊢
    obtain ⟨c0, h0, _⟩ := hlr 0 hp
    obtain ⟨b, off, rfl⟩ : ∃ b off, a = ⟨b, off, none⟩ := spot_none (v := _) (by simpa [Addr.add] using h0)
    refine ⟨b, off, rfl, ?_, fun k hk => ?_⟩
    · have := cell_lt h0
      exact (by simpa [Addr.add] using this : b < w.heap.size)
    · obtain ⟨c1, q1, q2⟩ := hlr k hk
      rw [add_plain'] at q1
      exact ⟨c1, q1, q2⟩
end
end Go.Proofs.Ytfnphnjadknoaaa

namespace Go.Proofs.Ytfnphnjadknoaaa
open Go.RowKit Go.Joins Go.ChangeShapes Go.WideShapes Go.Deep

section
variable {H : Type} {enc : TypeId × Value → H} {P : Program} {w : World} {spare : Nat → Bool} {held : Bool}
theorem trod_jobs {t e ti ts : TypeId} {f0 f1 : Field} {fuel : Nat} {v : Value} {x : DataW H × List MemPlace} (ht : P.underlying t = some (.slice e)) (he : P.underlying e = some (.struct #[f0, f1])) (hone : oneCellFields P #[f0, f1] = true) (hC : P.cellsOf e = 2)
    (hf : f0.type = ti ∧ f1.type = ts) (hti : P.underlying ti = some (.int .i64)) (hci : P.cellsOf ti = 1) (hts : P.underlying ts = some (.slice ti))
    (h : DataW.trod enc P w 0 spare held fuel t [v] = some x) : ∃ A l c, v = .slice A (l : List JobD).length c ∧ l.length ≤ c ∧ JobsAt w (Old w.heap.size) A l := by
  rcases open_slice ht h with ⟨hcs, _⟩ | ⟨a, len, cap, m, n, D, Pl, hcs, _, hl, hm, hmm, _, hi⟩
  · simp only [List.cons.injEq, and_true] at hcs
    exact ⟨none, [], 0, hcs, by simp, by simp, fun h => absurd h (by simp)⟩
  · simp only [List.cons.injEq, and_true] at hcs
    have hlm : len ≤ m := by rw [hmm]; split <;> omega
    unfold maxLen at hm
    have each : ∀ i, i < len → ∃ d : JobD, ∃ V c, (∀ j v, [Value.int .i64 d.v, .slice V d.ks.length c][j]? = some v → w.cell? ((a.add (i * 2)).add j) = some v) ∧ d.ks.length ≤ c ∧ IntsAt w (Old w.heap.size) V d.ks := by
      intro i hil
      obtain ⟨cs', hc, ht'⟩ := hi i (by omega)
      rw [hC] at hc
      obtain ⟨_, hcl, hat⟩ := World.cells?_some hc
      obtain ⟨ys, n', _, _, _, hyl, hfs⟩ := DataW.trod_struct he ht'
      match cs', hcl with
      | [c0, c1], _ =>
        obtain ⟨o0, k0⟩ := hone_of hone 0 f0 rfl
        obtain ⟨o1, k1⟩ := hone_of hone 1 f1 rfl
        match ys, hyl with
        | [y0, y1], _ =>
          have g0 := hfs 0 f0 rfl; rw [o0, k0, hf.1] at g0
          have g1 := hfs 1 f1 rfl; rw [o1, k1, hf.2] at g1
          obtain ⟨a0, t0, _, hw0⟩ := DataW.trod_int hti (x := y0) (by simpa using g0)
          obtain ⟨V, zs, cv, t1, hcap, hiv⟩ := trod_ints hts hti hci (x := y1) (by simpa using g1)
          simp only [List.cons.injEq, and_true] at t0
          subst t0 t1
          refine ⟨⟨a0, zs⟩, V, cv, fun j v hj => ?_, hcap, hiv⟩
          have hj2 : j < 2 := by
            have := (List.getElem?_eq_some_iff.1 hj).1
            simpa using this
          rw [hat j hj2]
          exact hj
    obtain ⟨l, hll, hlr⟩ := choose_list job0 len _ each
    refine ⟨some a, l, cap, by rw [hll]; exact hcs, by omega, by omega, fun hp => ?_⟩
    rw [hll] at hp ⊢
    obtain ⟨V0, c0, h0, _⟩ := hlr 0 hp
    have h00 := h0 0 _ rfl
    simp only [Nat.zero_mul] at h00
    obtain ⟨b, off, rfl⟩ : ∃ b off, a = ⟨b, off, none⟩ := spot_none (v := _) (by simpa [Addr.add] using h00)
    refine ⟨b, off, rfl, ?_, fun k hk => ?_⟩
    · have := cell_lt h00
      exact (by simpa [Addr.add] using this : b < w.heap.size)
    · obtain ⟨V, c, q, hcap, hiv⟩ := hlr k hk
      simp only [add_plain'] at q
      exact ⟨q 0 _ rfl, V, c, q 1 _ rfl, hcap, hiv⟩
theorem trod_rows {t e ts ti : TypeId} {g : Field} {fuel : Nat} {v : Value} {x : DataW H × List MemPlace} (ht : P.underlying t = some (.slice e)) (he : P.underlying e = some (.struct #[g])) (hone1 : oneCellFields P #[g] = true) (hC1 : P.cellsOf e = 1) (hg : g.type = ts)
    (hts : P.underlying ts = some (.slice ti)) (hti : P.underlying ti = some (.int .i64)) (hci : P.cellsOf ti = 1)
    (h : DataW.trod enc P w 0 spare held fuel t [v] = some x) : ∃ A rs c, v = .slice A (rs : List (List Int)).length c ∧ rs.length ≤ c ∧ DqAt w (Old w.heap.size) A rs := by
  obtain ⟨A, l, c, e, h1, h2, h3⟩ := trod_heads (α := List Int) [] (fun zs v => ∃ A' c', v = .slice A' zs.length c' ∧ zs.length ≤ c' ∧ IntsAt w (Old w.heap.size) A' zs) ht he hone1 hC1 hg (fun n c0 y0 hy => by
    obtain ⟨A', zs, c', e, h1, h2⟩ := trod_ints hts hti hci hy
    exact ⟨zs, A', c', e, h1, h2⟩) h
  refine ⟨A, l, c, e, h1, h2, fun hp => ?_⟩
  obtain ⟨b, off, e2, hb, hc⟩ := h3 hp
  refine ⟨b, off, e2, hb, fun k hk => ?_⟩
  obtain ⟨c0, h4, A', c', rfl, h5, h6⟩ := hc k hk
  exact ⟨A', c', h4, h5, h6⟩
end
theorem cellsOfJobL : Try.prog.cellsOf 107 = 2 := by kernel_rfl
theorem cellsOfIntJ : Try.prog.cellsOf 3 = 1 := by kernel_rfl
set_option maxRecDepth 100000 in
theorem open_jobs {H : Type} {enc : TypeId × Value → H} {W : World} {r : Reach} {b0 : Nat} {spare : Nat → Bool} {held : Bool} {v : Value} {d : DataW H} {p : List MemPlace} (hv : Value.okWide Try.prog W r b0 55 v) (h : DataW.Trod enc Try.prog W 0 spare held 55 v d p) :
    ∃ A c, ∃ l : List JobD, v = .slice A l.length c ∧ l.length ≤ c ∧ JobsAt W (Old W.heap.size) A l := by
  obtain ⟨a1, len, cap, rfl⟩ := okWide_slice Try.underlying55 hv
  obtain ⟨fuel, hf⟩ := h
  obtain ⟨A, l, c, e, hc, hi⟩ := trod_jobs Try.underlying55 Try.underlying107 (by kernel_rfl) cellsOfJobL ⟨rfl, rfl⟩ Try.underlying3 cellsOfIntJ Try.underlying26 (by simpa [Value.cells] using hf)
  exact ⟨A, c, l, e, hc, hi⟩
end Go.Proofs.Ytfnphnjadknoaaa

namespace Go.Proofs.Ytfnphnjadknoaaa
open Go.RowKit Go.Joins Go.ChangeShapes Go.WideShapes Go.Deep

section
variable {H : Type} {enc : TypeId × Value → H} {P : Program} {w : World} {spare : Nat → Bool} {held : Bool} {base : Nat}
theorem trod_bools {t e : TypeId} {fuel : Nat} {v : Value} {x : DataW H × List MemPlace} (ht : P.underlying t = some (.slice e)) (he : P.underlying e = some .bool) (hC : P.cellsOf e = 1)
    (h : DataW.trod enc P w 0 spare held fuel t [v] = some x) : ∃ A bs c, v = .slice A (bs : List Bool).length c ∧ bs.length ≤ c ∧ BlsAt w (Old w.heap.size) A bs := by
  rcases open_slice ht h with ⟨hcs, _⟩ | ⟨a, len, cap, m, n, D, Pl, hcs, _, hl, hm, hmm, _, hi⟩
  · simp only [List.cons.injEq, and_true] at hcs
    exact ⟨none, [], 0, hcs, by simp, by simp, fun h => absurd h (by simp)⟩
  · simp only [List.cons.injEq, and_true] at hcs
    have hlm : len ≤ m := by rw [hmm]; split <;> omega
    unfold maxLen at hm
    have each : ∀ i, i < len → ∃ d : Bool, ∀ j v, [Value.bool d][j]? = some v → w.cell? ((a.add (i * 1)).add j) = some v := by
      intro i hil
      obtain ⟨cs', hc, ht'⟩ := hi i (by omega)
      rw [hC] at hc
      obtain ⟨_, hcl, hat⟩ := World.cells?_some hc
      obtain ⟨b, rfl, -⟩ := DataW.trod_bool he ht'
      refine ⟨b, fun j v hj => ?_⟩
      have hj1 : j < 1 := by
        have := (List.getElem?_eq_some_iff.1 hj).1
        simpa using this
      rw [hat j hj1]
      exact hj
    obtain ⟨l, hll, hlr⟩ := choose_list false len _ each
    refine ⟨some a, l, cap, by rw [hll]; exact hcs, by omega, by omega, fun hp => ?_⟩
    rw [hll] at hp ⊢
    have h00 := hlr 0 hp 0 _ rfl
    simp only [Nat.zero_mul] at h00
    obtain ⟨b, off, rfl⟩ : ∃ b off, a = ⟨b, off, none⟩ := spot_none (v := _) (by simpa [Addr.add] using h00)
    refine ⟨b, off, rfl, ?_, fun k hk => ?_⟩
    · have := cell_lt h00
      exact (by simpa [Addr.add] using this : b < w.heap.size)
    · have q := hlr k hk
      simp only [add_plain', Nat.mul_one] at q
      exact q 0 _ rfl
theorem open_aggn' {r : Reach} {b0 : Nat} {t : TypeId} {fs : Array Field} {k : Nat} {v : Value} {d : DataW H} {p : List MemPlace} (hs : P.underlying t = some (.struct fs)) (hone : oneCellFields P fs = true) (hC : P.cellsOf t = k) (hk : fs.size = k)
    (hv : Value.okWide P w r b0 t v) (h : DataW.Trod enc P w base spare held t v d p) :
    ∃ (l : List Value) (n : Nat), v = .agg ⟨l⟩ ∧ l.length = k ∧ ∀ (j : Nat) (f : Field), fs[j]? = some f → ∃ c y, l[j]? = some c ∧ DataW.trod enc P w base spare held n f.type [c] = some y := by
  obtain ⟨cs, rfl, hsz⟩ := okWide_struct hs hv
  obtain ⟨l⟩ := cs
  have hl : l.length = k := hsz.trans hC
  obtain ⟨fuel, hf⟩ := h
  obtain ⟨xs, n, _, hx, _, hlen, hg⟩ := DataW.trod_struct hs hf
  refine ⟨l, n, rfl, hl, fun j f hfj => ?_⟩
  have hj : j < fs.size := by
    rcases Nat.lt_or_ge j fs.size with h | h
    · exact h
    · rw [Array.getElem?_eq_none h] at hfj; cases hfj
  obtain ⟨o0, k0⟩ := hone_of hone j f hfj
  have g0 := hg j f hfj
  rw [k0, o0] at g0
  have hj2 : j < l.length := by omega
  simp only [Value.cells] at g0
  have e0 : (l.drop j).take 1 = [l[j]] := by
    rw [List.drop_eq_getElem_cons hj2, List.take_succ_cons, List.take_zero]
  rw [e0] at g0
  obtain ⟨y, hy⟩ : ∃ y, xs[j]? = some y := ⟨_, List.getElem?_eq_getElem (by omega)⟩
  rw [hy] at g0
  exact ⟨l[j], y, List.getElem?_eq_getElem hj2, g0⟩
end
theorem cellsOfPoolL : Try.prog.cellsOf 67 = 7 := by kernel_rfl
theorem cellsOfRowL : Try.prog.cellsOf 145 = 1 := by kernel_rfl
theorem cellsOfBoolL : Try.prog.cellsOf 4 = 1 := by kernel_rfl
set_option maxRecDepth 100000 in
theorem open_pool {H : Type} {enc : TypeId × Value → H} {W : World} {r : Reach} {b0 : Nat} {spare : Nat → Bool} {held : Bool} {v : Value} {d : DataW H} {p : List MemPlace} (hv : Value.okWide Try.prog W r b0 67 v) (h : DataW.Trod enc Try.prog W 0 spare held 67 v d p) :
    ∃ (a : PA) (q : PoolD), v = .agg (a.cells q) ∧ PoolAt W (Old W.heap.size) a q := by
  obtain ⟨l, n, rfl, hl, hf⟩ := open_aggn' Try.underlying67 (by kernel_rfl) cellsOfPoolL rfl hv h
  match l, hl with
  | [c0, c1, c2, c3, c4, c5, c6], _ =>
    obtain ⟨x0, y0, e0, g0⟩ := hf 0 _ rfl
    obtain ⟨x1, y1, e1, g1⟩ := hf 1 _ rfl
    obtain ⟨x2, y2, e2, g2⟩ := hf 2 _ rfl
    obtain ⟨x3, y3, e3, g3⟩ := hf 3 _ rfl
    obtain ⟨x4, y4, e4, g4⟩ := hf 4 _ rfl
    obtain ⟨x5, y5, e5, g5⟩ := hf 5 _ rfl
    obtain ⟨x6, y6, e6, g6⟩ := hf 6 _ rfl
    clear hf
    cases e0; cases e1; cases e2; cases e3; cases e4; cases e5; cases e6
    obtain ⟨A0, js, k0, rfl, -, i0⟩ := trod_jobs Try.underlying55 Try.underlying107 (by kernel_rfl) cellsOfJobL ⟨rfl, rfl⟩ Try.underlying3 cellsOfIntJ Try.underlying26 g0
    obtain ⟨A1, dq, k1, rfl, -, i1⟩ := trod_rows Try.underlying65 Try.underlying145 (by kernel_rfl) cellsOfRowL rfl Try.underlying26 Try.underlying3 cellsOfIntJ g1
    obtain ⟨A2, ran, k2, rfl, -, i2⟩ := trod_bools Try.underlying25 Try.underlying4 cellsOfBoolL g2
    obtain ⟨A3, dn, k3, rfl, -, i3⟩ := trod_bools Try.underlying25 Try.underlying4 cellsOfBoolL g3
    obtain ⟨A4, lf, k4, rfl, -, i4⟩ := trod_ints Try.underlying26 Try.underlying3 cellsOfIntJ g4
    obtain ⟨A5, sm, k5, rfl, -, i5⟩ := trod_ints Try.underlying26 Try.underlying3 cellsOfIntJ g5
    obtain ⟨A6, vl, k6, rfl, -, i6⟩ := trod_ints Try.underlying26 Try.underlying3 cellsOfIntJ g6
    exact ⟨⟨A0, A1, A2, A3, A4, A5, A6, k0, k1, k2, k3, k4, k5, k6⟩, ⟨js, dq, ran, dn, lf, sm, vl⟩, rfl, ⟨i0, i1, i2, i3, i4, i5, i6⟩⟩
end Go.Proofs.Ytfnphnjadknoaaa
