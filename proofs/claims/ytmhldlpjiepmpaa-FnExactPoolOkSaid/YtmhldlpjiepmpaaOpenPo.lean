/- laws.Pool, opened; a row of flags. -/
import Derived.Test.YtmhldlpjiepmpaaOpenJb
import Derived.Test.YtmhldlpjiepmpaaPoM
namespace Go.Proofs.Ytmhldlpjiepmpaa
open Go.RowKit Go.Joins Go.ChangeShapes Go.WideShapes Go.Deep

section
variable {H : Type} {enc : TypeId × Value → H} {P : Program} {w : World} {spare : Nat → Bool} {held : Bool} {base : Nat}
theorem trod_bools {t e : TypeId} {fuel : Nat} {v : Value} {x : DataW H × List MemPlace} (ht : P.underlying t = some (.slice e)) (he : P.underlying e = some .bool) (hC : P.cellsOf e = 1)
    (h : DataW.trod enc P w 0 spare held fuel t [v] = some x) : ∃ A bs c, v = .slice A (bs : List Bool).length c ∧ bs.length ≤ c ∧ BlsAt w (Old w.heap.size) A bs := by
  rcases open_slice ht h with ⟨hcs, _⟩ | ⟨a, len, cap, m, n, D, Pl, hcs, _, hl, hm, hmm, _, hi⟩
  · simp only [List.cons.injEq, and_true] at hcs
    exact ⟨none, [], 0, hcs, by simp, by simp, fun h => absurd h (by simp)⟩
  · simp only [List.cons.injEq, and_true] at hcs
    have hlm : len ≤ m := by rw [hmm]; split <;> omega
    unfold maxLen at hm
    have each : ∀ i, i < len → ∃ d : Bool, ∀ j v, [Value.bool d][j]? = some v → w.cell? ((a.add (i * 1)).add j) = some v := by
      intro i hil
      obtain ⟨cs', hc, ht'⟩ := hi i (by omega)
      rw [hC] at hc
      obtain ⟨_, hcl, hat⟩ := World.cells?_some hc
      obtain ⟨b, rfl, -⟩ := DataW.trod_bool he ht'
      refine ⟨b, fun j v hj => ?_⟩
      have hj1 : j < 1 := by
        have := (List.getElem?_eq_some_iff.1 hj).1
        simpa using this
      rw [hat j hj1]
      exact hj
    obtain ⟨l, hll, hlr⟩ := choose_list false len _ each
    refine ⟨some a, l, cap, by rw [hll]; exact hcs, by omega, by omega, fun hp => ?_⟩
    rw [hll] at hp ⊢
    have h00 := hlr 0 hp 0 _ rfl
    simp only [Nat.zero_mul] at h00
    obtain ⟨b, off, rfl⟩ : ∃ b off, a = ⟨b, off, none⟩ := spot_none (v := _) (by simpa [Addr.add] using h00)
    refine ⟨b, off, rfl, ?_, fun k hk => ?_⟩
    · have := cell_lt h00
      exact (by simpa [Addr.add] using this : b < w.heap.size)
    · have q := hlr k hk
      simp only [add_plain', Nat.mul_one] at q
      exact q 0 _ rfl
theorem open_aggn' {r : Reach} {b0 : Nat} {t : TypeId} {fs : Array Field} {k : Nat} {v : Value} {d : DataW H} {p : List MemPlace} (hs : P.underlying t = some (.struct fs)) (hone : oneCellFields P fs = true) (hC : P.cellsOf t = k) (hk : fs.size = k)
    (hv : Value.okWide P w r b0 t v) (h : DataW.Trod enc P w base spare held t v d p) :
    ∃ (l : List Value) (n : Nat), v = .agg ⟨l⟩ ∧ l.length = k ∧ ∀ (j : Nat) (f : Field), fs[j]? = some f → ∃ c y, l[j]? = some c ∧ DataW.trod enc P w base spare held n f.type [c] = some y := by
  obtain ⟨cs, rfl, hsz⟩ := okWide_struct hs hv
  obtain ⟨l⟩ := cs
  have hl : l.length = k := hsz.trans hC
  obtain ⟨fuel, hf⟩ := h
  obtain ⟨xs, n, _, hx, _, hlen, hg⟩ := DataW.trod_struct hs hf
  refine ⟨l, n, rfl, hl, fun j f hfj => ?_⟩
  have hj : j < fs.size := by
    rcases Nat.lt_or_ge j fs.size with h | h
    · exact h
    · rw [Array.getElem?_eq_none h] at hfj; cases hfj
  obtain ⟨o0, k0⟩ := hone_of hone j f hfj
  have g0 := hg j f hfj
  rw [k0, o0] at g0
  have hj2 : j < l.length := by omega
  simp only [Value.cells] at g0
  have e0 : (l.drop j).take 1 = [l[j]] := by
    rw [List.drop_eq_getElem_cons hj2, List.take_succ_cons, List.take_zero]
  rw [e0] at g0
  obtain ⟨y, hy⟩ : ∃ y, xs[j]? = some y := ⟨_, List.getElem?_eq_getElem (by omega)⟩
  rw [hy] at g0
  exact ⟨l[j], y, List.getElem?_eq_getElem hj2, g0⟩
end
theorem cellsOfPoolL : Try.prog.cellsOf 67 = 7 := by kernel_rfl
theorem cellsOfRowL : Try.prog.cellsOf 145 = 1 := by kernel_rfl
theorem cellsOfBoolL : Try.prog.cellsOf 4 = 1 := by kernel_rfl
set_option maxRecDepth 100000 in
theorem open_pool {H : Type} {enc : TypeId × Value → H} {W : World} {r : Reach} {b0 : Nat} {spare : Nat → Bool} {held : Bool} {v : Value} {d : DataW H} {p : List MemPlace} (hv : Value.okWide Try.prog W r b0 67 v) (h : DataW.Trod enc Try.prog W 0 spare held 67 v d p) :
    ∃ (a : PA) (q : PoolD), v = .agg (a.cells q) ∧ PoolAt W (Old W.heap.size) a q := by
  obtain ⟨l, n, rfl, hl, hf⟩ := open_aggn' Try.underlying67 (by kernel_rfl) cellsOfPoolL rfl hv h
  match l, hl with
  | [c0, c1, c2, c3, c4, c5, c6], _ =>
    obtain ⟨x0, y0, e0, g0⟩ := hf 0 _ rfl
    obtain ⟨x1, y1, e1, g1⟩ := hf 1 _ rfl
    obtain ⟨x2, y2, e2, g2⟩ := hf 2 _ rfl
    obtain ⟨x3, y3, e3, g3⟩ := hf 3 _ rfl
    obtain ⟨x4, y4, e4, g4⟩ := hf 4 _ rfl
    obtain ⟨x5, y5, e5, g5⟩ := hf 5 _ rfl
    obtain ⟨x6, y6, e6, g6⟩ := hf 6 _ rfl
    clear hf
    cases e0; cases e1; cases e2; cases e3; cases e4; cases e5; cases e6
    obtain ⟨A0, js, k0, rfl, -, i0⟩ := trod_jobs Try.underlying55 Try.underlying107 (by kernel_rfl) cellsOfJobL ⟨rfl, rfl⟩ Try.underlying3 cellsOfIntJ Try.underlying26 g0
    obtain ⟨A1, dq, k1, rfl, -, i1⟩ := trod_rows Try.underlying65 Try.underlying145 (by kernel_rfl) cellsOfRowL rfl Try.underlying26 Try.underlying3 cellsOfIntJ g1
    obtain ⟨A2, ran, k2, rfl, -, i2⟩ := trod_bools Try.underlying25 Try.underlying4 cellsOfBoolL g2
    obtain ⟨A3, dn, k3, rfl, -, i3⟩ := trod_bools Try.underlying25 Try.underlying4 cellsOfBoolL g3
    obtain ⟨A4, lf, k4, rfl, -, i4⟩ := trod_ints Try.underlying26 Try.underlying3 cellsOfIntJ g4
    obtain ⟨A5, sm, k5, rfl, -, i5⟩ := trod_ints Try.underlying26 Try.underlying3 cellsOfIntJ g5
    obtain ⟨A6, vl, k6, rfl, -, i6⟩ := trod_ints Try.underlying26 Try.underlying3 cellsOfIntJ g6
    exact ⟨⟨A0, A1, A2, A3, A4, A5, A6, k0, k1, k2, k3, k4, k5, k6⟩, ⟨js, dq, ran, dn, lf, sm, vl⟩, rfl, ⟨i0, i1, i2, i3, i4, i5, i6⟩⟩
end Go.Proofs.Ytmhldlpjiepmpaa
