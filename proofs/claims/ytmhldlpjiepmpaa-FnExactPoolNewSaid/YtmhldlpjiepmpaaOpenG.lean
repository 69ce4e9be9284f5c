/- Rows of numbers, rows of structs of one field, opened: of no function of the program. -/
import Derived.Test.YtmhldlpjiepmpaaOpen
import Derived.Test.YtmhldlpjiepmpaaIntD
namespace Go.Proofs.Ytmhldlpjiepmpaa
open Go.RowKit Go.Joins Go.ChangeShapes Go.WideShapes Go.Deep

section
variable {H : Type} {enc : TypeId × Value → H} {P : Program} {w : World} {spare : Nat → Bool} {held : Bool}
theorem trod_ints_wf {t e : TypeId} {fuel : Nat} {v : Value} {x : DataW H × List MemPlace} (ht : P.underlying t = some (.slice e)) (he : P.underlying e = some (.int .i64)) (hc : P.cellsOf e = 1)
    (h : DataW.trod enc P w 0 spare held fuel t [v] = some x) : ∃ A zs c, v = .slice A (zs : List Int).length c ∧ zs.length ≤ c ∧ IntsAt w (Old w.heap.size) A zs ∧ IntsWf zs := by
  rcases open_ints ht he hc h with ⟨hcs, _⟩ | ⟨a, len, cap, zs, hcs, _, hl, hm, hz, _, hcell, hwf⟩
  · simp only [List.cons.injEq, and_true] at hcs
    exact ⟨none, [], 0, hcs, by simp, ⟨by simp, fun h => absurd h (by simp)⟩, fun k hk => absurd hk (by simp)⟩
  · simp only [List.cons.injEq, and_true] at hcs
    have hlen : len ≤ zs.length := by rw [hz]; split <;> omega
    have htl : (zs.take len).length = len := by rw [List.length_take]; omega
    unfold maxLen at hm
    refine ⟨some a, zs.take len, cap, by rw [htl]; exact hcs, by omega, ⟨by omega, fun hp => ?_⟩, fun k hk => ?_⟩
    · rw [htl] at hp ⊢
      obtain ⟨b, off, rfl, hat⟩ := ints_at hcell (by omega)
      refine ⟨b, off, rfl, cell_lt (hat 0 (by omega)), fun k hk => ?_⟩
      rw [hat k (by omega)]
      unfold geti
      rw [List.getD_eq_getElem?_getD, List.getD_eq_getElem?_getD, List.getElem?_take_of_lt hk]
    · unfold geti
      rw [List.getD_eq_getElem?_getD, List.getElem?_eq_getElem hk]
      exact hwf _ (List.mem_of_mem_take (List.getElem_mem hk))
/-- A row of structs of one field, each read by 'inner'. -/
theorem trod_heads {α : Type} (d0 : α) (R : α → Value → Prop) {t e ts : TypeId} {g : Field} {fuel : Nat} {v : Value} {x : DataW H × List MemPlace} (ht : P.underlying t = some (.slice e)) (he : P.underlying e = some (.struct #[g])) (hone1 : oneCellFields P #[g] = true) (hC1 : P.cellsOf e = 1) (hg : g.type = ts)
    (inner : ∀ (n : Nat) (c0 : Value) (y0 : DataW H × List MemPlace), DataW.trod enc P w 0 spare held n ts [c0] = some y0 → ∃ a, R a c0)
    (h : DataW.trod enc P w 0 spare held fuel t [v] = some x) : ∃ A l c, v = .slice A (l : List α).length c ∧ l.length ≤ c ∧ l.length ≤ 9223372036854775807 ∧ (0 < l.length → ∃ b off, A = some ⟨b, off, none⟩ ∧ b < w.heap.size ∧ ∀ k, k < l.length → ∃ c0, w.cell? ⟨b, off + k, none⟩ = some c0 ∧ R (l.getD k d0) c0) := by
  rcases open_slice ht h with ⟨hcs, _⟩ | ⟨a, len, cap, m, n, D, Pl, hcs, _, hl, hm, hmm, _, hi⟩
  · simp only [List.cons.injEq, and_true] at hcs
    exact ⟨none, [], 0, hcs, by simp, by simp, fun h => absurd h (by simp)⟩
  · simp only [List.cons.injEq, and_true] at hcs
    have hlm : len ≤ m := by rw [hmm]; split <;> omega
    unfold maxLen at hm
    have each : ∀ i, i < len → ∃ r : α, ∃ c0, w.cell? (a.add i) = some c0 ∧ R r c0 := by
      intro i hil
      obtain ⟨cs', hc, ht'⟩ := hi i (by omega)
      rw [hC1, Nat.mul_one] at hc
      obtain ⟨_, hcl, hat⟩ := World.cells?_some hc
      obtain ⟨ys, n', _, _, _, hyl, hfs⟩ := DataW.trod_struct he ht'
      match cs', hcl with
      | [c0], _ =>
        obtain ⟨o0, k0⟩ := hone_of hone1 0 g rfl
        match ys, hyl with
        | [y0], _ =>
          have g0 := hfs 0 g rfl
          rw [o0, k0, hg] at g0
          obtain ⟨r, hr⟩ := inner _ c0 y0 (by simpa using g0)
          refine ⟨r, c0, ?_, hr⟩
          have := hat 0 (by omega)
          simpa [Addr.add] using this
    obtain ⟨l, hll, hlr⟩ := choose_list d0 len _ each
    refine ⟨some a, l, cap, by rw [hll]; exact hcs, by omega, by omega, fun hp => ?_⟩
    rw [hll] at hp ⊢
    obtain ⟨c0, h0, _⟩ := hlr 0 hp
    obtain ⟨b, off, rfl⟩ : ∃ b off, a = ⟨b, off, none⟩ := spot_none (v := _) (by simpa [Addr.add] using h0)
    refine ⟨b, off, rfl, ?_, fun k hk => ?_⟩
    · have := cell_lt h0
      exact (by simpa [Addr.add] using this : b < w.heap.size)
    · obtain ⟨c1, q1, q2⟩ := hlr k hk
      rw [add_plain'] at q1
      exact ⟨c1, q1, q2⟩
end
end Go.Proofs.Ytmhldlpjiepmpaa
