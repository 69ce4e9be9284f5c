/- laws.Hist and a row of them, opened. -/
import Derived.Test.YtikfbhehnpogoaaPlD
import Derived.Test.YtikfbhehnpogoaaOpen
namespace Go.Proofs.Ytikfbhehnpogoaa
open Go.RowKit Go.Joins Go.ChangeShapes Go.WideShapes Go.Deep

section
variable {H : Type} {enc : TypeId × Value → H} {P : Program} {w : World} {spare : Nat → Bool} {held : Bool}
theorem trod_ints_wf {t e : TypeId} {fuel : Nat} {v : Value} {x : DataW H × List MemPlace} (ht : P.underlying t = some (.slice e)) (he : P.underlying e = some (.int .i64)) (hc : P.cellsOf e = 1)
    (h : DataW.trod enc P w 0 spare held fuel t [v] = some x) : ∃ A zs c, v = .slice A (zs : List Int).length c ∧ zs.length ≤ c ∧ IntsAt w (Old w.heap.size) A zs ∧ IntsWf zs := by
  rcases open_ints ht he hc h with ⟨hcs, _⟩ | ⟨a, len, cap, zs, hcs, _, hl, hm, hz, _, hcell, hwf⟩
  · simp only [List.cons.injEq, and_true] at hcs
    exact ⟨none, [], 0, hcs, by simp, ⟨by simp, fun h => absurd h (by simp)⟩, fun k hk => absurd hk (by simp)⟩
  · simp only [List.cons.injEq, and_true] at hcs
    have hlen : len ≤ zs.length := by rw [hz]; split <;> omega
    have htl : (zs.take len).length = len := by rw [List.length_take]; omega
    unfold maxLen at hm
    refine ⟨some a, zs.take len, cap, by rw [htl]; exact hcs, by omega, ⟨by omega, fun hp => ?_⟩, fun k hk => ?_⟩
    · rw [htl] at hp ⊢
      obtain ⟨b, off, rfl, hat⟩ := ints_at hcell (by omega)
      refine ⟨b, off, rfl, cell_lt (hat 0 (by omega)), fun k hk => ?_⟩
      rw [hat k (by omega)]
      unfold geti
      rw [List.getD_eq_getElem?_getD, List.getD_eq_getElem?_getD, List.getElem?_take_of_lt hk]
    · unfold geti
      rw [List.getD_eq_getElem?_getD, List.getElem?_eq_getElem hk]
      exact hwf _ (List.mem_of_mem_take (List.getElem_mem hk))
theorem trod_posts {t e ti tb ts : TypeId} {f0 f1 f2 f3 : Field} {fuel : Nat} {v : Value} {x : DataW H × List MemPlace} (ht : P.underlying t = some (.slice e)) (he : P.underlying e = some (.struct #[f0, f1, f2, f3])) (hone : oneCellFields P #[f0, f1, f2, f3] = true) (hC : P.cellsOf e = 4)
    (hf : f0.type = ti ∧ f1.type = ti ∧ f2.type = tb ∧ f3.type = ts) (hti : P.underlying ti = some (.int .i64)) (hci : P.cellsOf ti = 1) (htb : P.underlying tb = some .bool) (hts : P.underlying ts = some (.slice ti))
    (h : DataW.trod enc P w 0 spare held fuel t [v] = some x) : ∃ A l c, v = .slice A (l : List PostD).length c ∧ l.length ≤ c ∧ PostsAt w (Old w.heap.size) A l ∧ IdsWf l := by
  rcases open_slice ht h with ⟨hcs, _⟩ | ⟨a, len, cap, m, n, D, Pl, hcs, _, hl, hm, hmm, _, hi⟩
  · simp only [List.cons.injEq, and_true] at hcs
    exact ⟨none, [], 0, hcs, by simp, ⟨by simp, fun h => absurd h (by simp)⟩, fun k hk => absurd hk (by simp)⟩
  · simp only [List.cons.injEq, and_true] at hcs
    have hlm : len ≤ m := by rw [hmm]; split <;> omega
    unfold maxLen at hm
    have each : ∀ i, i < len → ∃ d : PostD, ∃ V c, (∀ j v, [Value.int .i64 d.id, .int .i64 d.val, .bool d.glue, .slice V d.view.length c][j]? = some v → w.cell? ((a.add (i * 4)).add j) = some v) ∧ d.view.length ≤ c ∧ IntsAt w (Old w.heap.size) V d.view ∧ (Lit.int .i64 d.id).wf = true := by
      intro i hil
      obtain ⟨cs', hc, ht'⟩ := hi i (by omega)
      rw [hC] at hc
      obtain ⟨_, hcl, hat⟩ := World.cells?_some hc
      obtain ⟨ys, n', _, _, _, hyl, hfs⟩ := DataW.trod_struct he ht'
      match cs', hcl with
      | [c0, c1, c2, c3], _ =>
        obtain ⟨o0, k0⟩ := hone_of hone 0 f0 rfl
        obtain ⟨o1, k1⟩ := hone_of hone 1 f1 rfl
        obtain ⟨o2, k2⟩ := hone_of hone 2 f2 rfl
        obtain ⟨o3, k3⟩ := hone_of hone 3 f3 rfl
        match ys, hyl with
        | [y0, y1, y2, y3], _ =>
          have g0 := hfs 0 f0 rfl; rw [o0, k0, hf.1] at g0
          have g1 := hfs 1 f1 rfl; rw [o1, k1, hf.2.1] at g1
          have g2 := hfs 2 f2 rfl; rw [o2, k2, hf.2.2.1] at g2
          have g3 := hfs 3 f3 rfl; rw [o3, k3, hf.2.2.2] at g3
          obtain ⟨a0, t0, _, hw0⟩ := DataW.trod_int hti (x := y0) (by simpa using g0)
          obtain ⟨a1, t1, _, _⟩ := DataW.trod_int hti (x := y1) (by simpa using g1)
          obtain ⟨a2, t2, _⟩ := DataW.trod_bool htb (x := y2) (by simpa using g2)
          obtain ⟨V, zs, cv, t3, hcap, hiv⟩ := trod_ints hts hti hci (x := y3) (by simpa using g3)
          simp only [List.cons.injEq, and_true] at t0 t1 t2
          subst t0 t1 t2 t3
          refine ⟨⟨a0, a1, a2, zs⟩, V, cv, fun j v hj => ?_, hcap, hiv, hw0⟩
          have hj4 : j < 4 := by
            have := (List.getElem?_eq_some_iff.1 hj).1
            simpa using this
          rw [hat j hj4]
          exact hj
    obtain ⟨l, hll, hlr⟩ := choose_list post0 len _ each
    refine ⟨some a, l, cap, by rw [hll]; exact hcs, by omega, ⟨by omega, fun hp => ?_⟩, fun k hk => by obtain ⟨_, _, _, _, _, hw⟩ := hlr k (by omega); exact hw⟩
    rw [hll] at hp ⊢
    obtain ⟨V0, c0, h0, _⟩ := hlr 0 hp
    have h00 := h0 0 _ rfl
    simp only [Nat.zero_mul] at h00
    obtain ⟨b, off, rfl⟩ : ∃ b off, a = ⟨b, off, none⟩ := spot_none (v := _) (by simpa [Addr.add] using h00)
    refine ⟨b, off, rfl, ?_, fun k hk => ?_⟩
    · have := cell_lt h00
      exact (by simpa [Addr.add] using this : b < w.heap.size)
    · obtain ⟨V, c, q, hcap, hiv, -⟩ := hlr k hk
      simp only [add_plain'] at q
      exact ⟨V, c, ⟨q 0 _ rfl, q 1 _ rfl, q 2 _ rfl, q 3 _ rfl⟩, hcap, hiv⟩
theorem trod_hists {t e ts es ti tb tv : TypeId} {g f0 f1 f2 f3 : Field} {fuel : Nat} {v : Value} {x : DataW H × List MemPlace} (ht : P.underlying t = some (.slice e)) (he : P.underlying e = some (.struct #[g])) (hone1 : oneCellFields P #[g] = true) (hC1 : P.cellsOf e = 1) (hg : g.type = ts)
    (hts : P.underlying ts = some (.slice es)) (hes : P.underlying es = some (.struct #[f0, f1, f2, f3])) (hone : oneCellFields P #[f0, f1, f2, f3] = true) (hC : P.cellsOf es = 4)
    (hf : f0.type = ti ∧ f1.type = ti ∧ f2.type = tb ∧ f3.type = tv) (hti : P.underlying ti = some (.int .i64)) (hci : P.cellsOf ti = 1) (htb : P.underlying tb = some .bool) (htv : P.underlying tv = some (.slice ti))
    (h : DataW.trod enc P w 0 spare held fuel t [v] = some x) : ∃ A l c, v = .slice A (l : List (List PostD)).length c ∧ l.length ≤ c ∧ HistsAt w (Old w.heap.size) A l ∧ ∀ k, k < l.length → IdsWf (geth l k) := by
  rcases open_slice ht h with ⟨hcs, _⟩ | ⟨a, len, cap, m, n, D, Pl, hcs, _, hl, hm, hmm, _, hi⟩
  · simp only [List.cons.injEq, and_true] at hcs
    exact ⟨none, [], 0, hcs, by simp, ⟨by simp, fun h => absurd h (by simp)⟩, fun k hk => absurd hk (by simp)⟩
  · simp only [List.cons.injEq, and_true] at hcs
    have hlm : len ≤ m := by rw [hmm]; split <;> omega
    unfold maxLen at hm
    have each : ∀ i, i < len → ∃ l : List PostD, ∃ A' c', w.cell? (a.add i) = some (.slice A' l.length c') ∧ l.length ≤ c' ∧ PostsAt w (Old w.heap.size) A' l ∧ IdsWf l := by
      intro i hil
      obtain ⟨cs', hc, ht'⟩ := hi i (by omega)
      rw [hC1, Nat.mul_one] at hc
      obtain ⟨_, hcl, hat⟩ := World.cells?_some hc
      obtain ⟨ys, n', _, _, _, hyl, hfs⟩ := DataW.trod_struct he ht'
      match cs', hcl with
      | [c0], _ =>
        obtain ⟨o0, k0⟩ := hone_of hone1 0 g rfl
        match ys, hyl with
        | [y0], _ =>
          have g0 := hfs 0 g rfl
          rw [o0, k0, hg] at g0
          obtain ⟨A', l, c', e1, e3, e2⟩ := trod_posts hts hes hone hC hf hti hci htb htv (x := y0) (by simpa using g0)
          refine ⟨l, A', c', ?_, e3, e2⟩
          have := hat 0 (by omega)
          simpa [Addr.add, e1] using this
    obtain ⟨l, hll, hlr⟩ := choose_list [] len _ each
    refine ⟨some a, l, cap, by rw [hll]; exact hcs, by omega, ⟨by omega, fun hp => ?_⟩, fun k hk => by obtain ⟨_, _, _, _, _, hw⟩ := hlr k (by omega); exact hw⟩
    rw [hll] at hp ⊢
    obtain ⟨A0, c0, h0, _⟩ := hlr 0 hp
    obtain ⟨b, off, rfl⟩ : ∃ b off, a = ⟨b, off, none⟩ := spot_none (v := _) (by simpa [Addr.add] using h0)
    refine ⟨b, off, rfl, ?_, fun k hk => ?_⟩
    · have := cell_lt h0
      exact (by simpa [Addr.add] using this : b < w.heap.size)
    · obtain ⟨A', c', q1, q3, q2, -⟩ := hlr k hk
      rw [add_plain'] at q1
      exact ⟨A', c', q1, q3, q2⟩
end
theorem cellsOfPostL : Try.prog.cellsOf 215 = 4 := by kernel_rfl
theorem cellsOfHistL : Try.prog.cellsOf 181 = 1 := by kernel_rfl
theorem cellsOfIntH : Try.prog.cellsOf 3 = 1 := by kernel_rfl

set_option maxRecDepth 100000 in
theorem open_hist {H : Type} {enc : TypeId × Value → H} {W : World} {r : Reach} {b0 : Nat} {spare : Nat → Bool} {held : Bool} {v : Value} {d : DataW H} {p : List MemPlace} (hv : Value.okWide Try.prog W r b0 181 v) (h : DataW.Trod enc Try.prog W 0 spare held 181 v d p) :
    ∃ A c, ∃ l : List PostD, v = .agg #[.slice A l.length c] ∧ l.length ≤ c ∧ PostsAt W (Old W.heap.size) A l ∧ IdsWf l := by
  obtain ⟨v0, y0, n, rfl, h0⟩ := open_agg1 Try.underlying181 (by kernel_rfl) cellsOfHistL hv h
  obtain ⟨A, l, c, rfl, hc, hi⟩ := trod_posts Try.underlying179 Try.underlying215 (by kernel_rfl) cellsOfPostL ⟨rfl, rfl, rfl, rfl⟩ Try.underlying3 cellsOfIntH Try.underlying4 Try.underlying23 h0
  exact ⟨A, c, l, rfl, hc, hi⟩
set_option maxRecDepth 100000 in
theorem open_hists {H : Type} {enc : TypeId × Value → H} {W : World} {r : Reach} {b0 : Nat} {spare : Nat → Bool} {held : Bool} {v : Value} {d : DataW H} {p : List MemPlace} (hv : Value.okWide Try.prog W r b0 56 v) (h : DataW.Trod enc Try.prog W 0 spare held 56 v d p) :
    ∃ A c, ∃ hs : List (List PostD), v = .slice A hs.length c ∧ hs.length ≤ c ∧ HistsAt W (Old W.heap.size) A hs ∧ ∀ k, k < hs.length → IdsWf (geth hs k) := by
  obtain ⟨a1, len, cap, rfl⟩ := okWide_slice Try.underlying56 hv
  obtain ⟨fuel, hf⟩ := h
  obtain ⟨A, hs, c, e, hc, hi⟩ := trod_hists Try.underlying56 Try.underlying181 (by kernel_rfl) cellsOfHistL rfl Try.underlying179 Try.underlying215 (by kernel_rfl) cellsOfPostL ⟨rfl, rfl, rfl, rfl⟩ Try.underlying3 cellsOfIntH Try.underlying4 Try.underlying23 (by simpa [Value.cells] using hf)
  exact ⟨A, c, hs, e, hc, hi⟩

set_option maxRecDepth 100000 in
theorem open_ints_wf {H : Type} {enc : TypeId × Value → H} {W : World} {r : Reach} {b0 : Nat} {spare : Nat → Bool} {held : Bool} {v : Value} {d : DataW H} {p : List MemPlace} (hv : Value.okWide Try.prog W r b0 23 v) (h : DataW.Trod enc Try.prog W 0 spare held 23 v d p) :
    ∃ A c, ∃ zs : List Int, v = .slice A zs.length c ∧ zs.length ≤ c ∧ IntsAt W (Old W.heap.size) A zs ∧ IntsWf zs := by
  obtain ⟨a1, len, cap, rfl⟩ := okWide_slice Try.underlying23 hv
  obtain ⟨fuel, hf⟩ := h
  obtain ⟨A, zs, c, e, hc, hi⟩ := trod_ints_wf Try.underlying23 Try.underlying3 cellsOfIntH (by simpa [Value.cells] using hf)
  exact ⟨A, c, zs, e, hc, hi⟩
end Go.Proofs.Ytikfbhehnpogoaa
