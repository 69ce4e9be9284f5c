/- A row of laws.Job, opened; a row of laws.Row, of flags. -/
import Derived.Test.YtmhldlpjiepmpaaOpenG
import Derived.Test.YtmhldlpjiepmpaaJbL
namespace Go.Proofs.Ytmhldlpjiepmpaa
open Go.RowKit Go.Joins Go.ChangeShapes Go.WideShapes Go.Deep

section
variable {H : Type} {enc : TypeId × Value → H} {P : Program} {w : World} {spare : Nat → Bool} {held : Bool}
theorem trod_jobs {t e ti ts : TypeId} {f0 f1 : Field} {fuel : Nat} {v : Value} {x : DataW H × List MemPlace} (ht : P.underlying t = some (.slice e)) (he : P.underlying e = some (.struct #[f0, f1])) (hone : oneCellFields P #[f0, f1] = true) (hC : P.cellsOf e = 2)
    (hf : f0.type = ti ∧ f1.type = ts) (hti : P.underlying ti = some (.int .i64)) (hci : P.cellsOf ti = 1) (hts : P.underlying ts = some (.slice ti))
    (h : DataW.trod enc P w 0 spare held fuel t [v] = some x) : ∃ A l c, v = .slice A (l : List JobD).length c ∧ l.length ≤ c ∧ JobsAt w (Old w.heap.size) A l := by
  rcases open_slice ht h with ⟨hcs, _⟩ | ⟨a, len, cap, m, n, D, Pl, hcs, _, hl, hm, hmm, _, hi⟩
  · simp only [List.cons.injEq, and_true] at hcs
    exact ⟨none, [], 0, hcs, by simp, by simp, fun h => absurd h (by simp)⟩
  · simp only [List.cons.injEq, and_true] at hcs
    have hlm : len ≤ m := by rw [hmm]; split <;> omega
    unfold maxLen at hm
    have each : ∀ i, i < len → ∃ d : JobD, ∃ V c, (∀ j v, [Value.int .i64 d.v, .slice V d.ks.length c][j]? = some v → w.cell? ((a.add (i * 2)).add j) = some v) ∧ d.ks.length ≤ c ∧ IntsAt w (Old w.heap.size) V d.ks := by
      intro i hil
      obtain ⟨cs', hc, ht'⟩ := hi i (by omega)
      rw [hC] at hc
      obtain ⟨_, hcl, hat⟩ := World.cells?_some hc
      obtain ⟨ys, n', _, _, _, hyl, hfs⟩ := DataW.trod_struct he ht'
      match cs', hcl with
      | [c0, c1], _ =>
        obtain ⟨o0, k0⟩ := hone_of hone 0 f0 rfl
        obtain ⟨o1, k1⟩ := hone_of hone 1 f1 rfl
        match ys, hyl with
        | [y0, y1], _ =>
          have g0 := hfs 0 f0 rfl; rw [o0, k0, hf.1] at g0
          have g1 := hfs 1 f1 rfl; rw [o1, k1, hf.2] at g1
          obtain ⟨a0, t0, _, hw0⟩ := DataW.trod_int hti (x := y0) (by simpa using g0)
          obtain ⟨V, zs, cv, t1, hcap, hiv⟩ := trod_ints hts hti hci (x := y1) (by simpa using g1)
          simp only [List.cons.injEq, and_true] at t0
          subst t0 t1
          refine ⟨⟨a0, zs⟩, V, cv, fun j v hj => ?_, hcap, hiv⟩
          have hj2 : j < 2 := by
            have := (List.getElem?_eq_some_iff.1 hj).1
            simpa using this
          rw [hat j hj2]
          exact hj
    obtain ⟨l, hll, hlr⟩ := choose_list job0 len _ each
    refine ⟨some a, l, cap, by rw [hll]; exact hcs, by omega, by omega, fun hp => ?_⟩
    rw [hll] at hp ⊢
    obtain ⟨V0, c0, h0, _⟩ := hlr 0 hp
    have h00 := h0 0 _ rfl
    simp only [Nat.zero_mul] at h00
    obtain ⟨b, off, rfl⟩ : ∃ b off, a = ⟨b, off, none⟩ := spot_none (v := _) (by simpa [Addr.add] using h00)
    refine ⟨b, off, rfl, ?_, fun k hk => ?_⟩
    · have := cell_lt h00
      exact (by simpa [Addr.add] using this : b < w.heap.size)
    · obtain ⟨V, c, q, hcap, hiv⟩ := hlr k hk
      simp only [add_plain'] at q
      exact ⟨q 0 _ rfl, V, c, q 1 _ rfl, hcap, hiv⟩
theorem trod_rows {t e ts ti : TypeId} {g : Field} {fuel : Nat} {v : Value} {x : DataW H × List MemPlace} (ht : P.underlying t = some (.slice e)) (he : P.underlying e = some (.struct #[g])) (hone1 : oneCellFields P #[g] = true) (hC1 : P.cellsOf e = 1) (hg : g.type = ts)
    (hts : P.underlying ts = some (.slice ti)) (hti : P.underlying ti = some (.int .i64)) (hci : P.cellsOf ti = 1)
    (h : DataW.trod enc P w 0 spare held fuel t [v] = some x) : ∃ A rs c, v = .slice A (rs : List (List Int)).length c ∧ rs.length ≤ c ∧ DqAt w (Old w.heap.size) A rs := by
  obtain ⟨A, l, c, e, h1, h2, h3⟩ := trod_heads (α := List Int) [] (fun zs v => ∃ A' c', v = .slice A' zs.length c' ∧ zs.length ≤ c' ∧ IntsAt w (Old w.heap.size) A' zs) ht he hone1 hC1 hg (fun n c0 y0 hy => by
    obtain ⟨A', zs, c', e, h1, h2⟩ := trod_ints hts hti hci hy
    exact ⟨zs, A', c', e, h1, h2⟩) h
  refine ⟨A, l, c, e, h1, h2, fun hp => ?_⟩
  obtain ⟨b, off, e2, hb, hc⟩ := h3 hp
  refine ⟨b, off, e2, hb, fun k hk => ?_⟩
  obtain ⟨c0, h4, A', c', rfl, h5, h6⟩ := hc k hk
  exact ⟨A', c', h4, h5, h6⟩
end
theorem cellsOfJobL : Try.prog.cellsOf 107 = 2 := by kernel_rfl
theorem cellsOfIntJ : Try.prog.cellsOf 3 = 1 := by kernel_rfl
set_option maxRecDepth 100000 in
theorem open_jobs {H : Type} {enc : TypeId × Value → H} {W : World} {r : Reach} {b0 : Nat} {spare : Nat → Bool} {held : Bool} {v : Value} {d : DataW H} {p : List MemPlace} (hv : Value.okWide Try.prog W r b0 55 v) (h : DataW.Trod enc Try.prog W 0 spare held 55 v d p) :
    ∃ A c, ∃ l : List JobD, v = .slice A l.length c ∧ l.length ≤ c ∧ JobsAt W (Old W.heap.size) A l := by
  obtain ⟨a1, len, cap, rfl⟩ := okWide_slice Try.underlying55 hv
  obtain ⟨fuel, hf⟩ := h
  obtain ⟨A, l, c, e, hc, hi⟩ := trod_jobs Try.underlying55 Try.underlying107 (by kernel_rfl) cellsOfJobL ⟨rfl, rfl⟩ Try.underlying3 cellsOfIntJ Try.underlying26 (by simpa [Value.cells] using hf)
  exact ⟨A, c, l, e, hc, hi⟩
end Go.Proofs.Ytmhldlpjiepmpaa
