/- append of any cells to a labelled slice; what is appended is told cell by cell. Of no function of the program. -/
import Derived.Test.YtmhldlpjiepmpaaSl
namespace Go.Proofs.Ytmhldlpjiepmpaa
open Go.RowKit

/-- N cells from A on, told by g. -/
def CellsAt (w : World) (A : Option Addr) (N : Nat) (g : Nat → Value) : Prop :=
  (∀ k, k < N → (g k).oneCell' = true) ∧ (0 < N → ∃ b off, A = some ⟨b, off, none⟩ ∧ ∀ k, k < N → w.cell? ⟨b, off + k, none⟩ = some (g k))
/-- N cells told by g, behind them those told by h. -/
def gThen (g : Nat → Value) (N : Nat) (h : Nat → Value) : Nat → Value := fun k => if k < N then g k else h (k - N)
theorem gThen_lo {g h : Nat → Value} {N k : Nat} (hk : k < N) : gThen g N h k = g k := if_pos hk
theorem gThen_hi {g h : Nat → Value} {N k : Nat} (hk : N ≤ k) : gThen g N h k = h (k - N) := if_neg (by omega)
section
variable {P : Program} (w : World)
theorem run_append_slv {f : Nat → Nat} {l B : Nat} (t ty e : TypeId) (i : TypeInfo) (z : Value) (sz bytes : Nat) (ht : P.underlying t = some (.slice e)) (hi : P.info? e = some i) (hz : i.zero = some z)
    (hsize : i.size = sz) (hby : i.bytes = bytes) (hzs : z.cells.size = sz) (hsz : 0 < sz)
    (v : Value) (n : Nat) (g : Nat → Value) (hv : Sl e sz w f l B v n g) (A : Option Addr) (m c : Nat) (h : Nat → Value) (ha : CellsAt w A (m * sz) h)
    (h63 : n + m ≤ maxLen) (hbytes : (n + m) * bytes ≤ 140737488355328) (hB : B ≤ w.heap.size) :
    ∃ v' w' f', (Builtin.append_ #[t, t] ty #[v, .slice A m c]).run P w = .ok v' w' ∧ Sl e sz w' f' l B v' (n + m) (gThen g (n * sz) h) ∧ Lab f l B w w' ∧ ∀ b, b < w.heap.size → f' b = f b := by
  obtain ⟨N, hN⟩ : ∃ N, N = n * sz := ⟨_, rfl⟩
  obtain ⟨M, hM⟩ : ∃ M, M = m * sz := ⟨_, rfl⟩
  have hNM : (n + m) * sz = N + M := by rw [Nat.add_mul, hN, hM]
  rw [← hM] at ha
  rw [← hN]
  rcases Nat.eq_zero_or_pos m with h0 | h0
  · subst h0
    have hM0 : M = 0 := by rw [hM, Nat.zero_mul]
    refine ⟨v, w, f, ?_, hv.congr (fun k hk => gThen_lo (by rw [hN]; exact hk)), Lab.refl _ _ _ _, fun _ _ => rfl⟩
    rcases hv with ⟨rfl, rfl⟩ | ⟨q, off, c', cs, rfl, hnc, h⟩
    · rcases A with _ | a
      · simp [Builtin.append_, run_underlying ht, sizeOf, typeInfo, hi, Builtin.lenOf, Builtin.firstCells]
      · simp [Builtin.append_, run_underlying ht, sizeOf, typeInfo, hi, Builtin.lenOf, Builtin.firstCells, loadCells, loadCellsFrom]
    · rcases A with _ | a
      · simp [Builtin.append_, run_underlying ht, sizeOf, typeInfo, hi, Builtin.lenOf, Builtin.firstCells, hnc, storeCells]
      · simp [Builtin.append_, run_underlying ht, sizeOf, typeInfo, hi, Builtin.lenOf, Builtin.firstCells, hnc, storeCells, loadCells, loadCellsFrom]
  · have hMp : 0 < M := by rw [hM]; exact Nat.mul_pos h0 hsz
    obtain ⟨b, o, rfl, hc⟩ := ha.2 hMp
    obtain ⟨news, hnw⟩ : ∃ news, news = (List.range M).map h := ⟨_, rfl⟩
    have hnl : news.length = M := by rw [hnw]; simp
    have hng : ∀ {k : Nat}, k < M → news[k]? = some (h k) := fun {k} hk => by rw [hnw]; simp [hk]
    have hnews : ∀ j u, news[j]? = some u → w.cell? ((⟨b, o, none⟩ : Addr).add j) = some u := fun j u hj => by
      have hj2 : j < M := by
        have := (List.getElem?_eq_some_iff.1 hj).1
        omega
      have hadd : (⟨b, o, none⟩ : Addr).add j = ⟨b, o + j, none⟩ := by unfold Addr.add; split <;> simp_all
      rw [hadd, hc j hj2, ← hng hj2]
      exact hj
    have hml : maxLen = 9223372036854775807 := rfl
    have hone : ∀ u ∈ news, u.oneCell' = true := by
      intro u hu
      rw [hnw] at hu
      obtain ⟨y, hy, rfl⟩ := List.mem_map.1 hu
      exact ha.1 y (by simpa using hy)
    have hlen : news.length = m * i.size := by rw [hnl, hM, hsize]
    have grow : ∀ (cap : Nat) (olds : List Value), olds.length = N → (∀ k, k < N → olds[k]? = some (g k)) → cap < n + m →
        Sl e sz (w.drew.alloc (.cells (olds.toArray ++ news.toArray ++ Builtin.zeroCells z.cells (grownCap w (n + m) cap e - (n + m))) e)) (lab f w.heap.size l) l B (.slice (some ⟨w.heap.size, 0, none⟩) (n + m) (grownCap w (n + m) cap e)) (n + m) (gThen g N h) ∧
        Lab f l B w (w.drew.alloc (.cells (olds.toArray ++ news.toArray ++ Builtin.zeroCells z.cells (grownCap w (n + m) cap e - (n + m))) e)) := fun cap olds ho hog _ => by
      have hge := grownCap_ge w (n + m) cap e
      have hcm : grownCap w (n + m) cap e ≤ maxLen := grownCap_le_maxLen w (n + m) cap e h63
      refine ⟨.inr ⟨w.heap.size, 0, _, _, rfl, hge, by omega, lab_at _ _ _, hB, heap_alloc_new w.drew _, ?_, fun k hk => ?_⟩, ⟨rfl, rfl, rfl, by simp, fun k hk _ => Below.heap_alloc w.drew _ k hk⟩⟩
      · simp only [Array.size_append, List.size_toArray, size_zeroCells, hzs, ho, hnl]
        rw [← hNM, ← Nat.add_mul]
        rw [Nat.zero_add]
        exact Nat.mul_le_mul_right _ (by omega)
      · rw [hNM] at hk
        rw [Nat.zero_add, Array.getElem?_append_left (by simp only [Array.size_append, List.size_toArray, ho, hnl]; omega)]
        by_cases hkn : k < N
        · rw [Array.getElem?_append_left (by rw [List.size_toArray, ho]; exact hkn), List.getElem?_toArray, gThen_lo hkn]
          exact hog k hkn
        · rw [Array.getElem?_append_right (by rw [List.size_toArray, ho]; omega), List.getElem?_toArray, List.size_toArray, ho, gThen_hi (by omega)]
          exact hng (by omega)
    rcases hv with ⟨rfl, rfl⟩ | ⟨q, off, c', cs, rfl, h1, h2, h3, h4, h5, h6, h7⟩
    · have hr := run_append_nil (P := P) w t ty e i z ht hi hz ⟨b, o, none⟩ m c news hlen hnews h0 (by omega) (by rw [hby]; rw [Nat.zero_add] at hbytes; omega)
      have hg2 := grow 0 [] (by rw [hN, Nat.zero_mul]; rfl) (fun k hk => by rw [hN, Nat.zero_mul] at hk; omega) (by omega)
      simp only [Nat.zero_add, Array.empty_append] at hg2 ⊢
      exact ⟨_, _, _, hr, hg2.1, hg2.2, fun b hb => lab_old hb⟩
    · rw [← hN] at h7
      by_cases hroom : n + m ≤ c'
      · have hcc : N + M ≤ c' * sz := by rw [← hNM]; exact Nat.mul_le_mul_right _ hroom
        have hr := run_append_off (P := P) w t ty e i ht hi q off n c' cs h5 ⟨b, o, none⟩ m c news hlen hnews hone hroom (by rw [hsize, ← hN, hnl]; omega)
        refine ⟨_, _, f, hr, .inr ⟨q, off, c', _, rfl, hroom, h2, h3, h4, setRow_heap w q cs _ e _ h5, ?_, fun k hk => ?_⟩, ⟨rfl, rfl, rfl, by simp [World.setRow], fun k _ hn => setRow_other w q k _ (fun e => hn (by rw [e]; exact ⟨h3, h4⟩))⟩, fun _ _ => rfl⟩
        · simp only [List.size_toArray, List.length_append, List.length_take, List.length_drop, Array.length_toList, hsize, hnl, ← hN]
          omega
        · rw [hNM] at hk
          rw [List.getElem?_toArray, hsize, ← hN]
          by_cases hkn : k < N
          · rw [List.append_assoc, List.getElem?_append_left (by simp; omega), List.getElem?_take, if_pos (by omega), gThen_lo hkn, Array.getElem?_toList]
            exact h7 k hkn
          · rw [List.append_assoc, List.getElem?_append_right (by simp; omega), List.getElem?_append_left (by simp; omega), gThen_hi (by omega), ← hng (by omega : k - N < M)]
            congr 1
            simp
            omega
      · have holds : ∀ j u, ((List.range N).map g)[j]? = some u → w.cell? ((⟨q, off, none⟩ : Addr).add j) = some u := fun j u hj => by
          have hj2 : j < N := by
            have := (List.getElem?_eq_some_iff.1 hj).1
            simpa using this
          have hadd : (⟨q, off, none⟩ : Addr).add j = ⟨q, off + j, none⟩ := by unfold Addr.add; split <;> simp_all
          rw [hadd, h5.cell, h7 j hj2]
          simpa [hj2] using hj
        have hr := run_append_grow (P := P) w t ty e i z ht hi hz ⟨q, off, none⟩ n c' ((List.range N).map g) (by simp [hsize, hN]) holds ⟨b, o, none⟩ m c news hlen hnews (by omega) (by omega) (by rw [hby]; exact growslice_fits (by omega) hbytes)
        have hg2 := grow c' ((List.range N).map g) (by simp) (fun k hk => by simp [hk]) (by omega)
        exact ⟨_, _, _, hr, hg2.1, hg2.2, fun b hb => lab_old hb⟩
theorem wp_append_slv {o : Oper} {a : Act} {K : Act → World → Prop} {Q : Exit → Act → World → Prop} (s x : Operand) (t : TypeId)
    (ho : o.op = .call { callee := .builtin .append, args := #[s, x], argTypes := #[t, t] })
    {f : Nat → Nat} {l B : Nat} (e : TypeId) (i : TypeInfo) (z : Value) (sz bytes : Nat) (ht : P.underlying t = some (.slice e)) (hi : P.info? e = some i) (hz : i.zero = some z)
    (hsize : i.size = sz) (hby : i.bytes = bytes) (hzs : z.cells.size = sz) (hsz : 0 < sz)
    (v : Value) (n : Nat) (g : Nat → Value) (hs : a.eval s = v) (hv : Sl e sz w f l B v n g) (A : Option Addr) (m c : Nat) (hh : Nat → Value) (hx : a.eval x = .slice A m c) (ha : CellsAt w A (m * sz) hh)
    (h63 : n + m ≤ maxLen) (hbytes : (n + m) * bytes ≤ 140737488355328) (hB : B ≤ w.heap.size)
    (h : ∀ v' w' f', Sl e sz w' f' l B v' (n + m) (gThen g (n * sz) hh) → Lab f l B w w' → (∀ b, b < w.heap.size → f' b = f b) → K (a.put o.dst v') w') : o.wp P a w K Q := by
  obtain ⟨v', w', f', hr, h2, h3, h4⟩ := run_append_slv (P := P) w t o.type e i z sz bytes ht hi hz hsize hby hzs hsz v n g hv A m c hh ha h63 hbytes hB
  unfold Oper.wp execOp
  simp only [ho, resolve, invoke, builtin, Sem.run_bind, Sem.run_pure, Result.andThen_ok, List.map_toArray, List.map_cons, List.map_nil, hs, hx, hr]
  exact h v' w' f' h2 h3 h4
theorem wpList_append_slv {ops : Array Oper} {rest : List Oper} {o : Oper} {a : Act} {Q : Exit → Act → World → Prop} (hgd : o.guard = none) (s x : Operand) (t : TypeId)
    (ho : o.op = .call { callee := .builtin .append, args := #[s, x], argTypes := #[t, t] })
    {f : Nat → Nat} {l B : Nat} (e : TypeId) (i : TypeInfo) (z : Value) (sz bytes : Nat) (ht : P.underlying t = some (.slice e)) (hi : P.info? e = some i) (hz : i.zero = some z)
    (hsize : i.size = sz) (hby : i.bytes = bytes) (hzs : z.cells.size = sz) (hsz : 0 < sz)
    (v : Value) (n : Nat) (g : Nat → Value) (hs : a.eval s = v) (hv : Sl e sz w f l B v n g) (A : Option Addr) (m c : Nat) (hh : Nat → Value) (hx : a.eval x = .slice A m c) (ha : CellsAt w A (m * sz) hh)
    (h63 : n + m ≤ maxLen) (hbytes : (n + m) * bytes ≤ 140737488355328) (hB : B ≤ w.heap.size)
    (h : ∀ v' w' f', Sl e sz w' f' l B v' (n + m) (gThen g (n * sz) hh) → Lab f l B w w' → (∀ b, b < w.heap.size → f' b = f b) → wpList P ops Q rest (a.put o.dst v') w') : wpList P ops Q (o :: rest) a w :=
  wpList_plain hgd fun _ hK => wp_append_slv w s x t ho e i z sz bytes ht hi hz hsize hby hzs hsz v n g hs hv A m c hh hx ha h63 hbytes hB fun v' w' f' h2 h3 h4 => hK _ _ (h v' w' f' h2 h3 h4)
end
section
variable {P : Program} (w : World)
/-- append to an empty row without room: what was there is as it was. -/
theorem run_append_empty {f : Nat → Nat} {l B : Nat} (t ty e : TypeId) (i : TypeInfo) (z : Value) (sz bytes : Nat) (ht : P.underlying t = some (.slice e)) (hi : P.info? e = some i) (hz : i.zero = some z)
    (hsize : i.size = sz) (hby : i.bytes = bytes) (hzs : z.cells.size = sz) (hsz : 0 < sz)
    (q : Nat) (hq : Blk w q e #[]) (hfq : f q = l) (hBq : B ≤ q) (A : Option Addr) (m c : Nat) (h : Nat → Value) (ha : CellsAt w A (m * sz) h)
    (h63 : m ≤ maxLen) (hbytes : m * bytes ≤ 140737488355328) :
    ∃ v' w' f', (Builtin.append_ #[t, t] ty #[.slice (some ⟨q, 0, none⟩) 0 0, .slice A m c]).run P w = .ok v' w' ∧ Sl e sz w' f' l B v' m h ∧ Below w.heap.size w w' ∧ ∀ b, b < w.heap.size → f' b = f b := by
  obtain ⟨M, hM⟩ : ∃ M, M = m * sz := ⟨_, rfl⟩
  rw [← hM] at ha
  rcases Nat.eq_zero_or_pos m with h0 | h0
  · subst h0
    refine ⟨_, w, f, ?_, .inr ⟨q, 0, 0, #[], rfl, Nat.le_refl _, by omega, hfq, hBq, hq, by simp, fun k hk => by omega⟩, Below.refl _ _, fun _ _ => rfl⟩
    rcases A with _ | a
    · simp [Builtin.append_, run_underlying ht, sizeOf, typeInfo, hi, Builtin.lenOf, Builtin.firstCells, storeCells]
    · simp [Builtin.append_, run_underlying ht, sizeOf, typeInfo, hi, Builtin.lenOf, Builtin.firstCells, storeCells, loadCells, loadCellsFrom]
  · have hMp : 0 < M := by rw [hM]; exact Nat.mul_pos h0 hsz
    obtain ⟨b, o, rfl, hc⟩ := ha.2 hMp
    obtain ⟨news, hnw⟩ : ∃ news, news = (List.range M).map h := ⟨_, rfl⟩
    have hnl : news.length = M := by rw [hnw]; simp
    have hng : ∀ {k : Nat}, k < M → news[k]? = some (h k) := fun {k} hk => by rw [hnw]; simp [hk]
    have hnews : ∀ j u, news[j]? = some u → w.cell? ((⟨b, o, none⟩ : Addr).add j) = some u := fun j u hj => by
      have hj2 : j < M := by
        have := (List.getElem?_eq_some_iff.1 hj).1
        omega
      have hadd : (⟨b, o, none⟩ : Addr).add j = ⟨b, o + j, none⟩ := by unfold Addr.add; split <;> simp_all
      rw [hadd, hc j hj2, ← hng hj2]
      exact hj
    have hml : maxLen = 9223372036854775807 := rfl
    have hlen : news.length = m * i.size := by rw [hnl, hM, hsize]
    have hge := grownCap_ge w m 0 e
    have hcm : grownCap w m 0 e ≤ maxLen := grownCap_le_maxLen w m 0 e h63
    have hr := run_append_grow (P := P) w t ty e i z ht hi hz ⟨q, 0, none⟩ 0 0 [] (by simp) (fun j u hj => by simp at hj) ⟨b, o, none⟩ m c news hlen hnews (by omega) (by omega) (by rw [hby]; exact growslice_fits (by omega) (by rw [Nat.zero_add]; exact hbytes))
    simp only [Nat.zero_add, Array.empty_append] at hr
    refine ⟨_, _, lab f w.heap.size l, hr, .inr ⟨w.heap.size, 0, _, _, rfl, hge, by omega, lab_at _ _ _, Nat.le_trans hBq (Nat.le_of_lt hq.lt), heap_alloc_new w.drew _, ?_, fun k hk => ?_⟩, ⟨rfl, rfl, rfl, by simp, fun k hk => Below.heap_alloc w.drew _ k hk⟩, fun b hb => lab_old hb⟩
    · simp only [Array.size_append, List.size_toArray, size_zeroCells, hzs, hnl]
      rw [hM, ← Nat.add_mul, Nat.zero_add]
      exact Nat.mul_le_mul_right _ (by omega)
    · rw [← hM] at hk
      rw [Nat.zero_add, Array.getElem?_append_left (by rw [List.size_toArray, hnl]; exact hk), List.getElem?_toArray]
      exact hng hk
/-- A step that appends. -/
theorem step_append {ops : Array Oper} {Q : Exit → Act → World → Prop} {o : Oper} {a : Act} {w' : World} {K : Act → World → Prop} (s x : Operand) (t : TypeId) {vs vx v' : Value}
    (ho : o.op = .call { callee := .builtin .append, args := #[s, x], argTypes := #[t, t] }) (hw : Region.wanted o (yielded ops a.tmps) = true) (hs : a.eval s = vs) (hx : a.eval x = vx)
    (hr : (Builtin.append_ #[t, t] o.type #[vs, vx]).run P w = .ok v' w') (h : K (a.put o.dst v') w') :
    if Region.wanted o (yielded ops a.tmps) = true then Oper.wp P o a w K Q else K (a.put o.dst undef) w := by
  rw [if_pos hw]
  unfold Oper.wp execOp
  simp only [ho, resolve, invoke, builtin, Sem.run_bind, Sem.run_pure, Result.andThen_ok, List.map_toArray, List.map_cons, List.map_nil, hs, hx, hr]
  exact h
end
/-- An empty row in a block of its own. -/
theorem Sl.fresh (t : TypeId) (sz : Nat) (w : World) (f : Nat → Nat) {l B : Nat} (hB : B ≤ w.heap.size) (g : Nat → Value) : Sl t sz (w.alloc (.cells #[] t)) (lab f w.heap.size l) l B (.slice (some ⟨w.heap.size, 0, none⟩) 0 0) 0 g :=
  .inr ⟨w.heap.size, 0, 0, #[], rfl, Nat.le_refl _, by omega, lab_at _ _ _, hB, Blk.new w t #[], by simp, fun k hk => by omega⟩
theorem CellsAt.below {w w' : World} {A : Option Addr} {N B : Nat} {g : Nat → Value} (h : CellsAt w A N g) (hb : Below B w w') (hA : ∀ b off, 0 < N → A = some ⟨b, off, none⟩ → b < B) : CellsAt w' A N g :=
  ⟨h.1, fun hp => by
    obtain ⟨b, off, e, hc⟩ := h.2 hp
    exact ⟨b, off, e, fun k hk => (below_keep hb (S := fun x => x = b) (fun x hx => by rw [hx]; exact hA b off hp e) b (off + k) rfl).trans (hc k hk)⟩⟩
theorem CellsAt.next {w w' : World} {A : Option Addr} {N : Nat} {g : Nat → Value} (h : CellsAt w A N g) (hb : Below w.heap.size w w') : CellsAt w' A N g :=
  h.below hb fun b off hp e => by
    obtain ⟨b', off', e', hc⟩ := h.2 hp
    rw [e] at e'
    cases e'
    exact World.block_lt_of_cell? w _ (hc 0 hp)
end Go.Proofs.Ytmhldlpjiepmpaa
