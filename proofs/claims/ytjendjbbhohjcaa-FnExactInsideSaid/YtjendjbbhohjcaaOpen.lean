/- Arguments, opened: rows of numbers, of structs of numbers, of threads. -/
import Derived.Test.YtjendjbbhohjcaaCore
import Derived.Deep.Slices
import Derived.Deep.Fields
import Derived.OpenShut
import Derived.ProofKit
import Derived.Lib.SmallJoins
import Derived.Test.YtjendjbbhohjcaaRows
namespace Go.Proofs.Ytjendjbbhohjcaa
open Go.RowKit Go.Joins Go.ChangeShapes Go.WideShapes Go.Deep

theorem choose_list {α : Type} (d : α) (n : Nat) (R : Nat → α → Prop) (h : ∀ i, i < n → ∃ x, R i x) : ∃ l : List α, l.length = n ∧ ∀ i, i < n → R i (l.getD i d) := by
  induction n with
  | zero => exact ⟨[], rfl, fun i hi => by omega⟩
  | succ n ih =>
    obtain ⟨l, hl, hr⟩ := ih (fun i hi => h i (by omega))
    obtain ⟨x, hx⟩ := h n (by omega)
    refine ⟨l ++ [x], by simp [hl], fun i hi => ?_⟩
    by_cases e : i < n
    · have := hr i e
      rwa [List.getD_eq_getElem?_getD, List.getElem?_append_left (by omega), ← List.getD_eq_getElem?_getD]
    · obtain rfl : i = n := by omega
      rw [List.getD_eq_getElem?_getD, List.getElem?_append_right (by omega), hl]
      simpa using hx

theorem cell_lt {w : World} {a : Addr} {v : Value} (h : w.cell? a = some v) : a.block < w.heap.size := by
  rcases Nat.lt_or_ge a.block w.heap.size with hlt | hge
  · exact hlt
  · unfold World.cell? at h; rw [Array.getElem?_eq_none hge] at h; cases h

section
variable {H : Type} {enc : TypeId × Value → H} {P : Program} {w : World} {spare : Nat → Bool} {held : Bool}

theorem trod_ints {t e : TypeId} {fuel : Nat} {v : Value} {x : DataW H × List MemPlace} (ht : P.underlying t = some (.slice e)) (he : P.underlying e = some (.int .i64)) (hc : P.cellsOf e = 1)
    (h : DataW.trod enc P w 0 spare held fuel t [v] = some x) : ∃ A zs c, v = .slice A (zs : List Int).length c ∧ zs.length ≤ c ∧ IntsAt w (Old w.heap.size) A zs := by
  rcases open_ints ht he hc h with ⟨hcs, _⟩ | ⟨a, len, cap, zs, hcs, _, hl, hm, hz, _, hcell, _⟩
  · simp only [List.cons.injEq, and_true] at hcs
    exact ⟨none, [], 0, hcs, by simp, by simp, fun h => absurd h (by simp)⟩
  · simp only [List.cons.injEq, and_true] at hcs
    have hlen : len ≤ zs.length := by rw [hz]; split <;> omega
    have htl : (zs.take len).length = len := by rw [List.length_take]; omega
    unfold maxLen at hm
    refine ⟨some a, zs.take len, cap, by rw [htl]; exact hcs, by omega, by omega, fun hp => ?_⟩
    rw [htl] at hp ⊢
    obtain ⟨b, off, rfl, hat⟩ := ints_at hcell (by omega)
    refine ⟨b, off, rfl, cell_lt (hat 0 (by omega)), fun k hk => ?_⟩
    rw [hat k (by omega)]
    unfold geti
    rw [List.getD_eq_getElem?_getD, List.getD_eq_getElem?_getD, List.getElem?_take_of_lt hk]

theorem add_plain' (b off k : Nat) : (⟨b, off, none⟩ : Addr).add k = ⟨b, off + k, none⟩ := by
  unfold Addr.add; split
  · subst_vars; rfl
  · rfl
theorem spot_none {a : Addr} {v : Value} (h : w.cell? a = some v) : ∃ b off, a = ⟨b, off, none⟩ := by
  obtain ⟨b, off, spot⟩ := a
  have := World.cell?_spot h
  simp at this
  subst this
  exact ⟨b, off, rfl⟩

theorem trod_inss {t e ti : TypeId} {f0 f1 f2 f3 f4 f5 : Field} {fuel : Nat} {v : Value} {x : DataW H × List MemPlace} (ht : P.underlying t = some (.slice e)) (he : P.underlying e = some (.struct #[f0, f1, f2, f3, f4, f5])) (hone : oneCellFields P #[f0, f1, f2, f3, f4, f5] = true) (hC : P.cellsOf e = 6)
    (hf : f0.type = ti ∧ f1.type = ti ∧ f2.type = ti ∧ f3.type = ti ∧ f4.type = ti ∧ f5.type = ti) (hti : P.underlying ti = some (.int .i64))
    (h : DataW.trod enc P w 0 spare held fuel t [v] = some x) : ∃ A l c, v = .slice A (l : List InsD).length c ∧ l.length ≤ c ∧ InssAt w (Old w.heap.size) A l := by
  rcases open_slice ht h with ⟨hcs, _⟩ | ⟨a, len, cap, m, n, D, Pl, hcs, _, hl, hm, hmm, _, hi⟩
  · simp only [List.cons.injEq, and_true] at hcs
    exact ⟨none, [], 0, hcs, by simp, by simp, fun h => absurd h (by simp)⟩
  · simp only [List.cons.injEq, and_true] at hcs
    have hlm : len ≤ m := by rw [hmm]; split <;> omega
    unfold maxLen at hm
    have each : ∀ i, i < len → ∃ d : InsD, ∀ j v, [Value.int .i64 d.o, .int .i64 d.r, .int .i64 d.a, .int .i64 d.b, .int .i64 d.x, .int .i64 d.n][j]? = some v → w.cell? ((a.add (i * 6)).add j) = some v := by
      intro i hil
      obtain ⟨cs', hc, ht'⟩ := hi i (by omega)
      rw [hC] at hc
      obtain ⟨_, hcl, hat⟩ := World.cells?_some hc
      obtain ⟨ys, n', _, _, _, hyl, hfs⟩ := DataW.trod_struct he ht'
      match cs', hcl with
      | [c0, c1, c2, c3, c4, c5], _ =>
        obtain ⟨o0, k0⟩ := hone_of hone 0 f0 rfl
        obtain ⟨o1, k1⟩ := hone_of hone 1 f1 rfl
        obtain ⟨o2, k2⟩ := hone_of hone 2 f2 rfl
        obtain ⟨o3, k3⟩ := hone_of hone 3 f3 rfl
        obtain ⟨o4, k4⟩ := hone_of hone 4 f4 rfl
        obtain ⟨o5, k5⟩ := hone_of hone 5 f5 rfl
        match ys, hyl with
        | [y0, y1, y2, y3, y4, y5], _ =>
          have g0 := hfs 0 f0 rfl; rw [o0, k0, hf.1] at g0
          have g1 := hfs 1 f1 rfl; rw [o1, k1, hf.2.1] at g1
          have g2 := hfs 2 f2 rfl; rw [o2, k2, hf.2.2.1] at g2
          have g3 := hfs 3 f3 rfl; rw [o3, k3, hf.2.2.2.1] at g3
          have g4 := hfs 4 f4 rfl; rw [o4, k4, hf.2.2.2.2.1] at g4
          have g5 := hfs 5 f5 rfl; rw [o5, k5, hf.2.2.2.2.2] at g5
          obtain ⟨a0, t0, _, _⟩ := DataW.trod_int hti (x := y0) (by simpa using g0)
          obtain ⟨a1, t1, _, _⟩ := DataW.trod_int hti (x := y1) (by simpa using g1)
          obtain ⟨a2, t2, _, _⟩ := DataW.trod_int hti (x := y2) (by simpa using g2)
          obtain ⟨a3, t3, _, _⟩ := DataW.trod_int hti (x := y3) (by simpa using g3)
          obtain ⟨a4, t4, _, _⟩ := DataW.trod_int hti (x := y4) (by simpa using g4)
          obtain ⟨a5, t5, _, _⟩ := DataW.trod_int hti (x := y5) (by simpa using g5)
          simp only [List.cons.injEq, and_true] at t0 t1 t2 t3 t4 t5
          subst t0 t1 t2 t3 t4 t5
          refine ⟨⟨a0, a1, a2, a3, a4, a5⟩, fun j v hj => ?_⟩
          have hj6 : j < 6 := by
            have := (List.getElem?_eq_some_iff.1 hj).1
            simpa using this
          rw [hat j hj6]
          exact hj
    obtain ⟨l, hll, hlr⟩ := choose_list ins0 len _ each
    refine ⟨some a, l, cap, by rw [hll]; exact hcs, by omega, by omega, fun hp => ?_⟩
    rw [hll] at hp ⊢
    obtain ⟨b, off, rfl⟩ : ∃ b off, a = ⟨b, off, none⟩ := by
      have := hlr 0 hp 0 _ rfl
      simp only [Nat.zero_mul] at this
      exact spot_none (v := _) (by simpa [Addr.add] using this)
    have h0 := hlr 0 hp 0 _ rfl
    refine ⟨b, off, rfl, ?_, fun k hk => ?_⟩
    · have := cell_lt h0
      exact (by simpa [Addr.add] using this : b < w.heap.size)
    · have q := hlr k hk
      simp only [add_plain'] at q
      exact ⟨q 0 _ rfl, q 1 _ rfl, q 2 _ rfl, q 3 _ rfl, q 4 _ rfl, q 5 _ rfl⟩

theorem trod_threads {t e ts es ti : TypeId} {g f0 f1 f2 f3 f4 f5 : Field} {fuel : Nat} {v : Value} {x : DataW H × List MemPlace} (ht : P.underlying t = some (.slice e)) (he : P.underlying e = some (.struct #[g])) (hone1 : oneCellFields P #[g] = true) (hC1 : P.cellsOf e = 1) (hg : g.type = ts)
    (hts : P.underlying ts = some (.slice es)) (hes : P.underlying es = some (.struct #[f0, f1, f2, f3, f4, f5])) (hone : oneCellFields P #[f0, f1, f2, f3, f4, f5] = true) (hC : P.cellsOf es = 6)
    (hf : f0.type = ti ∧ f1.type = ti ∧ f2.type = ti ∧ f3.type = ti ∧ f4.type = ti ∧ f5.type = ti) (hti : P.underlying ti = some (.int .i64))
    (h : DataW.trod enc P w 0 spare held fuel t [v] = some x) : ∃ A l c, v = .slice A (l : List (List InsD)).length c ∧ l.length ≤ c ∧ ThreadsAt w (Old w.heap.size) A l := by
  rcases open_slice ht h with ⟨hcs, _⟩ | ⟨a, len, cap, m, n, D, Pl, hcs, _, hl, hm, hmm, _, hi⟩
  · simp only [List.cons.injEq, and_true] at hcs
    exact ⟨none, [], 0, hcs, by simp, by simp, fun h => absurd h (by simp)⟩
  · simp only [List.cons.injEq, and_true] at hcs
    have hlm : len ≤ m := by rw [hmm]; split <;> omega
    unfold maxLen at hm
    have each : ∀ i, i < len → ∃ l : List InsD, ∃ A' c', w.cell? (a.add i) = some (.slice A' l.length c') ∧ l.length ≤ c' ∧ InssAt w (Old w.heap.size) A' l := by
      intro i hil
      obtain ⟨cs', hc, ht'⟩ := hi i (by omega)
      rw [hC1, Nat.mul_one] at hc
      obtain ⟨_, hcl, hat⟩ := World.cells?_some hc
      obtain ⟨ys, n', _, _, _, hyl, hfs⟩ := DataW.trod_struct he ht'
      match cs', hcl with
      | [c0], _ =>
        obtain ⟨o0, k0⟩ := hone_of hone1 0 g rfl
        match ys, hyl with
        | [y0], _ =>
          have g0 := hfs 0 g rfl
          rw [o0, k0, hg] at g0
          obtain ⟨A', l, c', e1, e3, e2⟩ := trod_inss hts hes hone hC hf hti (x := y0) (by simpa using g0)
          refine ⟨l, A', c', ?_, e3, e2⟩
          have := hat 0 (by omega)
          simpa [Addr.add, e1] using this
    obtain ⟨l, hll, hlr⟩ := choose_list [] len _ each
    refine ⟨some a, l, cap, by rw [hll]; exact hcs, by omega, by omega, fun hp => ?_⟩
    rw [hll] at hp ⊢
    obtain ⟨A0, c0, h0, _⟩ := hlr 0 hp
    obtain ⟨b, off, rfl⟩ : ∃ b off, a = ⟨b, off, none⟩ := spot_none (v := _) (by simpa [Addr.add] using h0)
    refine ⟨b, off, rfl, ?_, fun k hk => ?_⟩
    · have := cell_lt h0
      exact (by simpa [Addr.add] using this : b < w.heap.size)
    · obtain ⟨A', c', q1, q3, q2⟩ := hlr k hk
      rw [add_plain'] at q1
      exact ⟨A', c', q1, q3, q2⟩
end

section
variable {H : Type} {enc : TypeId × Value → H} {P : Program} {w : World} {base : Nat} {spare : Nat → Bool} {held : Bool}
theorem open_agg1 {r : Reach} {b0 : Nat} {t : TypeId} {f0 : Field} {v : Value} {d : DataW H} {p : List MemPlace} (hs : P.underlying t = some (.struct #[f0])) (hone : oneCellFields P #[f0] = true) (hC : P.cellsOf t = 1)
    (hv : Value.okWide P w r b0 t v) (h : DataW.Trod enc P w base spare held t v d p) :
    ∃ (v0 : Value) (y0 : DataW H × List MemPlace) (n : Nat), v = .agg #[v0] ∧ DataW.trod enc P w base spare held n f0.type [v0] = some y0 := by
  obtain ⟨cs, rfl, hsz⟩ := okWide_struct hs hv
  obtain ⟨l⟩ := cs
  match l, hsz.trans hC with
  | [c0], _ =>
    obtain ⟨fuel, hf⟩ := h
    obtain ⟨xs, n, _, hx, _, hlen, hg⟩ := DataW.trod_struct hs hf
    obtain ⟨o0, k0⟩ := hone_of hone 0 f0 rfl
    match xs, hlen with
    | [y0], _ =>
      exact ⟨c0, y0, n, rfl, by simpa [Value.cells, o0, k0] using hg 0 f0 rfl⟩
end

section
variable {H : Type} {enc : TypeId × Value → H} {P : Program} {w : World} {spare : Nat → Bool} {held : Bool}
/-- A row of structs of k numbers, read as its flat row of numbers. -/
theorem trod_flat {t e ti : TypeId} {fs : Array Field} {k : Nat} {fuel : Nat} {v : Value} {x : DataW H × List MemPlace} (ht : P.underlying t = some (.slice e)) (he : P.underlying e = some (.struct fs)) (hone : oneCellFields P fs = true) (hC : P.cellsOf e = k) (hk0 : 0 < k)
    (hk : fs.size = k) (hf : ∀ (i : Nat) (f : Field), fs[i]? = some f → f.type = ti) (hti : P.underlying ti = some (.int .i64))
    (h : DataW.trod enc P w 0 spare held fuel t [v] = some x) : ∃ A n c, v = .slice A n c ∧ n ≤ c ∧ n ≤ 9223372036854775807 ∧ (n * k ≤ 9223372036854775807 → ∃ zs : List Int, zs.length = n * k ∧ IntsAt w (Old w.heap.size) A zs) := by
  rcases open_slice ht h with ⟨hcs, _⟩ | ⟨a, len, cap, m, n, D, Pl, hcs, _, hl, hm, hmm, _, hi⟩
  · simp only [List.cons.injEq, and_true] at hcs
    exact ⟨none, 0, 0, hcs, Nat.le_refl _, by omega, fun _ => ⟨[], by simp, by simp, fun h => absurd h (by simp)⟩⟩
  · simp only [List.cons.injEq, and_true] at hcs
    have hlm : len ≤ m := by rw [hmm]; split <;> omega
    unfold maxLen at hm
    have each : ∀ i, i < len → ∀ j, j < k → ∃ y : Int, w.cell? ((a.add (i * k)).add j) = some (.int .i64 y) := by
      intro i hil j hj
      obtain ⟨cs', hc, ht'⟩ := hi i (by omega)
      rw [hC] at hc
      obtain ⟨_, hcl, hat⟩ := World.cells?_some hc
      obtain ⟨ys, n', _, _, _, hyl, hfs⟩ := DataW.trod_struct he ht'
      obtain ⟨f, hfj⟩ : ∃ f, fs[j]? = some f := ⟨_, Array.getElem?_eq_getElem (by omega)⟩
      obtain ⟨o0, k0⟩ := hone_of hone j f hfj
      have g0 := hfs j f hfj
      rw [k0, o0, hf j f hfj] at g0
      obtain ⟨c0, hc0⟩ : ∃ c, cs'[j]? = some c := ⟨_, List.getElem?_eq_getElem (by omega)⟩
      have e0 : (cs'.drop j).take 1 = [c0] := by
        have hj2 : j < cs'.length := by omega
        rw [List.drop_eq_getElem_cons hj2, List.take_succ_cons, List.take_zero]
        rw [List.getElem?_eq_getElem hj2] at hc0
        cases hc0
        rfl
      rw [e0] at g0
      obtain ⟨y, hy⟩ : ∃ y, ys[j]? = some y := ⟨_, List.getElem?_eq_getElem (by omega)⟩
      rw [hy] at g0
      obtain ⟨a0, t0, _, _⟩ := DataW.trod_int hti g0
      simp only [List.cons.injEq, and_true] at t0
      subst t0
      exact ⟨a0, by rw [hat j hj]; exact hc0⟩
    obtain ⟨zs, hzl, hzr⟩ := choose_list (0 : Int) (len * k) (fun q y => w.cell? ((a.add (q / k * k)).add (q % k)) = some (.int .i64 y)) (fun q hq => each (q / k) ((Nat.div_lt_iff_lt_mul hk0).2 hq) (q % k) (Nat.mod_lt _ hk0))
    refine ⟨some a, len, cap, hcs, by omega, by omega, fun hlen => ⟨zs, hzl, by rw [hzl]; exact hlen, fun hp => ?_⟩⟩
    obtain ⟨b, off, rfl⟩ : ∃ b off, a = ⟨b, off, none⟩ := by
      have h0 := hzr 0 (by omega)
      simp only [Nat.zero_div, Nat.zero_mul, Nat.zero_mod] at h0
      exact spot_none (v := .int .i64 (zs.getD 0 0)) (by simpa [Addr.add] using h0)
    have hall : ∀ q, q < zs.length → w.cell? ⟨b, off + q, none⟩ = some (.int .i64 (geti zs q)) := fun q hq => by
      have h1 := hzr q (by omega)
      rw [add_plain', add_plain', Nat.add_assoc, Nat.div_add_mod'] at h1
      exact h1
    exact ⟨b, off, rfl, cell_lt (hall 0 hp), hall⟩
end
end Go.Proofs.Ytjendjbbhohjcaa
