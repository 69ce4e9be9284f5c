/- slices.Clone of flags, numbers, jobs, rows: the copy is labelled. -/
import Derived.Test.YtfnphnjadknoaaaMp0
import Derived.Test.YtfnphnjadknoaaaMp2
import Derived.Test.YtfnphnjadknoaaaMp6
import Derived.Test.YtfnphnjadknoaaaMp7
namespace Go.Proofs.Ytfnphnjadknoaaa
open Go.RowKit

def CellsAt (w : World) (A : Option Addr) (N : Nat) (g : Nat → Value) : Prop :=
  (∀ k, k < N → (g k).oneCell' = true) ∧ (0 < N → ∃ b off, A = some ⟨b, off, none⟩ ∧ ∀ k, k < N → w.cell? ⟨b, off + k, none⟩ = some (g k))
def gThen (g : Nat → Value) (N : Nat) (h : Nat → Value) : Nat → Value := fun k => if k < N then g k else h (k - N)
theorem gThen_lo {g h : Nat → Value} {N k : Nat} (hk : k < N) : gThen g N h k = g k := if_pos hk
theorem gThen_hi {g h : Nat → Value} {N k : Nat} (hk : N ≤ k) : gThen g N h k = h (k - N) := if_neg (by omega)
section
variable {P : Program} (w : World)
theorem run_append_slv {f : Nat → Nat} {l B : Nat} (t ty e : TypeId) (i : TypeInfo) (z : Value) (sz bytes : Nat) (ht : P.underlying t = some (.slice e)) (hi : P.info? e = some i) (hz : i.zero = some z)
    (hsize : i.size = sz) (hby : i.bytes = bytes) (hzs : z.cells.size = sz) (hsz : 0 < sz)
    (v : Value) (n : Nat) (g : Nat → Value) (hv : Sl e sz w f l B v n g) (A : Option Addr) (m c : Nat) (h : Nat → Value) (ha : CellsAt w A (m * sz) h)
    (h63 : n + m ≤ maxLen) (hbytes : (n + m) * bytes ≤ 140737488355328) (hB : B ≤ w.heap.size) :
    ∃ v' w' f', (Builtin.append_ #[t, t] ty #[v, .slice A m c]).run P w = .ok v' w' ∧ Sl e sz w' f' l B v' (n + m) (gThen g (n * sz) h) ∧ Lab f l B w w' ∧ ∀ b, b < w.heap.size → f' b = f b := by
  obtain ⟨N, hN⟩ : ∃ N, N = n * sz := ⟨_, rfl⟩
  obtain ⟨M, hM⟩ : ∃ M, M = m * sz := ⟨_, rfl⟩
  have hNM : (n + m) * sz = N + M := by rw [Nat.add_mul, hN, hM]
  rw [← hM] at ha
  rw [← hN]
  rcases Nat.eq_zero_or_pos m with h0 | h0
  · subst h0
    have hM0 : M = 0 := by rw [hM, Nat.zero_mul]
    refine ⟨v, w, f, ?_, hv.congr (fun k hk => gThen_lo (by rw [hN]; exact hk)), Lab.refl _ _ _ _, fun _ _ => rfl⟩
    rcases hv with ⟨rfl, rfl⟩ | ⟨q, off, c', cs, rfl, hnc, h⟩
    · rcases A with _ | a
      · simp [Builtin.append_, run_underlying ht, sizeOf, typeInfo, hi, Builtin.lenOf, Builtin.firstCells]
      · simp [Builtin.append_, run_underlying ht, sizeOf, typeInfo, hi, Builtin.lenOf, Builtin.firstCells, loadCells, loadCellsFrom]
    · rcases A with _ | a
      · simp [Builtin.append_, run_underlying ht, sizeOf, typeInfo, hi, Builtin.lenOf, Builtin.firstCells, hnc, storeCells]
      · simp [Builtin.append_, run_underlying ht, sizeOf, typeInfo, hi, Builtin.lenOf, Builtin.firstCells, hnc, storeCells, loadCells, loadCellsFrom]
  · have hMp : 0 < M := by rw [hM]; exact Nat.mul_pos h0 hsz
    obtain ⟨b, o, rfl, hc⟩ := ha.2 hMp
    obtain ⟨news, hnw⟩ : ∃ news, news = (List.range M).map h := ⟨_, rfl⟩
    have hnl : news.length = M := by rw [hnw]; simp
    have hng : ∀ {k : Nat}, k < M → news[k]? = some (h k) := fun {k} hk => by rw [hnw]; simp [hk]
    have hnews : ∀ j u, news[j]? = some u → w.cell? ((⟨b, o, none⟩ : Addr).add j) = some u := fun j u hj => by
      have hj2 : j < M := by
        have := (List.getElem?_eq_some_iff.1 hj).1
        omega
      have hadd : (⟨b, o, none⟩ : Addr).add j = ⟨b, o + j, none⟩ := by unfold Addr.add; split <;> simp_all
      rw [hadd, hc j hj2, ← hng hj2]
      exact hj
    have hml : maxLen = 9223372036854775807 := rfl
    have hone : ∀ u ∈ news, u.oneCell' = true := by
      intro u hu
      rw [hnw] at hu
      obtain ⟨y, hy, rfl⟩ := List.mem_map.1 hu
      exact ha.1 y (by simpa using hy)
    have hlen : news.length = m * i.size := by rw [hnl, hM, hsize]
    have grow : ∀ (cap : Nat) (olds : List Value), olds.length = N → (∀ k, k < N → olds[k]? = some (g k)) → cap < n + m →
        Sl e sz (w.drew.alloc (.cells (olds.toArray ++ news.toArray ++ Builtin.zeroCells z.cells (grownCap w (n + m) cap e - (n + m))) e)) (lab f w.heap.size l) l B (.slice (some ⟨w.heap.size, 0, none⟩) (n + m) (grownCap w (n + m) cap e)) (n + m) (gThen g N h) ∧
        Lab f l B w (w.drew.alloc (.cells (olds.toArray ++ news.toArray ++ Builtin.zeroCells z.cells (grownCap w (n + m) cap e - (n + m))) e)) := fun cap olds ho hog _ => by
      have hge := grownCap_ge w (n + m) cap e
      have hcm : grownCap w (n + m) cap e ≤ maxLen := grownCap_le_maxLen w (n + m) cap e h63
      refine ⟨.inr ⟨w.heap.size, 0, _, _, rfl, hge, by omega, lab_at _ _ _, hB, heap_alloc_new w.drew _, ?_, fun k hk => ?_⟩, ⟨rfl, rfl, rfl, by simp, fun k hk _ => Below.heap_alloc w.drew _ k hk⟩⟩
      · simp only [Array.size_append, List.size_toArray, size_zeroCells, hzs, ho, hnl]
        rw [← hNM, ← Nat.add_mul]
        rw [Nat.zero_add]
        exact Nat.mul_le_mul_right _ (by omega)
      · rw [hNM] at hk
        rw [Nat.zero_add, Array.getElem?_append_left (by simp only [Array.size_append, List.size_toArray, ho, hnl]; omega)]
        by_cases hkn : k < N
        · rw [Array.getElem?_append_left (by rw [List.size_toArray, ho]; exact hkn), List.getElem?_toArray, gThen_lo hkn]
          exact hog k hkn
        · rw [Array.getElem?_append_right (by rw [List.size_toArray, ho]; omega), List.getElem?_toArray, List.size_toArray, ho, gThen_hi (by omega)]
          exact hng (by omega)
    rcases hv with ⟨rfl, rfl⟩ | ⟨q, off, c', cs, rfl, h1, h2, h3, h4, h5, h6, h7⟩
    · have hr := run_append_nil (P := P) w t ty e i z ht hi hz ⟨b, o, none⟩ m c news hlen hnews h0 (by omega) (by rw [hby]; rw [Nat.zero_add] at hbytes; omega)
      have hg2 := grow 0 [] (by rw [hN, Nat.zero_mul]; rfl) (fun k hk => by rw [hN, Nat.zero_mul] at hk; omega) (by omega)
      simp only [Nat.zero_add, Array.empty_append] at hg2 ⊢
      exact ⟨_, _, _, hr, hg2.1, hg2.2, fun b hb => lab_old hb⟩
    · rw [← hN] at h7
      by_cases hroom : n + m ≤ c'
      · have hcc : N + M ≤ c' * sz := by rw [← hNM]; exact Nat.mul_le_mul_right _ hroom
        have hr := run_append_off (P := P) w t ty e i ht hi q off n c' cs h5 ⟨b, o, none⟩ m c news hlen hnews hone hroom (by rw [hsize, ← hN, hnl]; omega)
        refine ⟨_, _, f, hr, .inr ⟨q, off, c', _, rfl, hroom, h2, h3, h4, setRow_heap w q cs _ e _ h5, ?_, fun k hk => ?_⟩, ⟨rfl, rfl, rfl, by simp [World.setRow], fun k _ hn => setRow_other w q k _ (fun e => hn (by rw [e]; exact ⟨h3, h4⟩))⟩, fun _ _ => rfl⟩
        · simp only [List.size_toArray, List.length_append, List.length_take, List.length_drop, Array.length_toList, hsize, hnl, ← hN]
          omega
        · rw [hNM] at hk
          rw [List.getElem?_toArray, hsize, ← hN]
          by_cases hkn : k < N
          · rw [List.append_assoc, List.getElem?_append_left (by simp; omega), List.getElem?_take, if_pos (by omega), gThen_lo hkn, Array.getElem?_toList]
            exact h7 k hkn
          · rw [List.append_assoc, List.getElem?_append_right (by simp; omega), List.getElem?_append_left (by simp; omega), gThen_hi (by omega), ← hng (by omega : k - N < M)]
            congr 1
            simp
            omega
      · have holds : ∀ j u, ((List.range N).map g)[j]? = some u → w.cell? ((⟨q, off, none⟩ : Addr).add j) = some u := fun j u hj => by
          have hj2 : j < N := by
            have := (List.getElem?_eq_some_iff.1 hj).1
            simpa using this
          have hadd : (⟨q, off, none⟩ : Addr).add j = ⟨q, off + j, none⟩ := by unfold Addr.add; split <;> simp_all
          rw [hadd, h5.cell, h7 j hj2]
          simpa [hj2] using hj
        have hr := run_append_grow (P := P) w t ty e i z ht hi hz ⟨q, off, none⟩ n c' ((List.range N).map g) (by simp [hsize, hN]) holds ⟨b, o, none⟩ m c news hlen hnews (by omega) (by omega) (by rw [hby]; exact growslice_fits (by omega) hbytes)
        have hg2 := grow c' ((List.range N).map g) (by simp) (fun k hk => by simp [hk]) (by omega)
        exact ⟨_, _, _, hr, hg2.1, hg2.2, fun b hb => lab_old hb⟩
theorem wp_append_slv {o : Oper} {a : Act} {K : Act → World → Prop} {Q : Exit → Act → World → Prop} (s x : Operand) (t : TypeId)
    (ho : o.op = .call { callee := .builtin .append, args := #[s, x], argTypes := #[t, t] })
    {f : Nat → Nat} {l B : Nat} (e : TypeId) (i : TypeInfo) (z : Value) (sz bytes : Nat) (ht : P.underlying t = some (.slice e)) (hi : P.info? e = some i) (hz : i.zero = some z)
    (hsize : i.size = sz) (hby : i.bytes = bytes) (hzs : z.cells.size = sz) (hsz : 0 < sz)
    (v : Value) (n : Nat) (g : Nat → Value) (hs : a.eval s = v) (hv : Sl e sz w f l B v n g) (A : Option Addr) (m c : Nat) (hh : Nat → Value) (hx : a.eval x = .slice A m c) (ha : CellsAt w A (m * sz) hh)
    (h63 : n + m ≤ maxLen) (hbytes : (n + m) * bytes ≤ 140737488355328) (hB : B ≤ w.heap.size)
    (h : ∀ v' w' f', Sl e sz w' f' l B v' (n + m) (gThen g (n * sz) hh) → Lab f l B w w' → (∀ b, b < w.heap.size → f' b = f b) → K (a.put o.dst v') w') : o.wp P a w K Q := by
  obtain ⟨v', w', f', hr, h2, h3, h4⟩ := run_append_slv (P := P) w t o.type e i z sz bytes ht hi hz hsize hby hzs hsz v n g hv A m c hh ha h63 hbytes hB
  unfold Oper.wp execOp
  simp only [ho, resolve, invoke, builtin, Sem.run_bind, Sem.run_pure, Result.andThen_ok, List.map_toArray, List.map_cons, List.map_nil, hs, hx, hr]
  exact h v' w' f' h2 h3 h4
theorem wpList_append_slv {ops : Array Oper} {rest : List Oper} {o : Oper} {a : Act} {Q : Exit → Act → World → Prop} (hgd : o.guard = none) (s x : Operand) (t : TypeId)
    (ho : o.op = .call { callee := .builtin .append, args := #[s, x], argTypes := #[t, t] })
    {f : Nat → Nat} {l B : Nat} (e : TypeId) (i : TypeInfo) (z : Value) (sz bytes : Nat) (ht : P.underlying t = some (.slice e)) (hi : P.info? e = some i) (hz : i.zero = some z)
    (hsize : i.size = sz) (hby : i.bytes = bytes) (hzs : z.cells.size = sz) (hsz : 0 < sz)
    (v : Value) (n : Nat) (g : Nat → Value) (hs : a.eval s = v) (hv : Sl e sz w f l B v n g) (A : Option Addr) (m c : Nat) (hh : Nat → Value) (hx : a.eval x = .slice A m c) (ha : CellsAt w A (m * sz) hh)
    (h63 : n + m ≤ maxLen) (hbytes : (n + m) * bytes ≤ 140737488355328) (hB : B ≤ w.heap.size)
    (h : ∀ v' w' f', Sl e sz w' f' l B v' (n + m) (gThen g (n * sz) hh) → Lab f l B w w' → (∀ b, b < w.heap.size → f' b = f b) → wpList P ops Q rest (a.put o.dst v') w') : wpList P ops Q (o :: rest) a w :=
  wpList_plain hgd fun _ hK => wp_append_slv w s x t ho e i z sz bytes ht hi hz hsize hby hzs hsz v n g hs hv A m c hh hx ha h63 hbytes hB fun v' w' f' h2 h3 h4 => hK _ _ (h v' w' f' h2 h3 h4)
end
section
variable {P : Program} (w : World)
theorem run_append_empty {f : Nat → Nat} {l B : Nat} (t ty e : TypeId) (i : TypeInfo) (z : Value) (sz bytes : Nat) (ht : P.underlying t = some (.slice e)) (hi : P.info? e = some i) (hz : i.zero = some z)
    (hsize : i.size = sz) (hby : i.bytes = bytes) (hzs : z.cells.size = sz) (hsz : 0 < sz)
    (q : Nat) (hq : Blk w q e #[]) (hfq : f q = l) (hBq : B ≤ q) (A : Option Addr) (m c : Nat) (h : Nat → Value) (ha : CellsAt w A (m * sz) h)
    (h63 : m ≤ maxLen) (hbytes : m * bytes ≤ 140737488355328) :
    ∃ v' w' f', (Builtin.append_ #[t, t] ty #[.slice (some ⟨q, 0, none⟩) 0 0, .slice A m c]).run P w = .ok v' w' ∧ Sl e sz w' f' l B v' m h ∧ Below w.heap.size w w' ∧ ∀ b, b < w.heap.size → f' b = f b := by
  obtain ⟨M, hM⟩ : ∃ M, M = m * sz := ⟨_, rfl⟩
  rw [← hM] at ha
  rcases Nat.eq_zero_or_pos m with h0 | h0
  · subst h0
    refine ⟨_, w, f, ?_, .inr ⟨q, 0, 0, #[], rfl, Nat.le_refl _, by omega, hfq, hBq, hq, by simp, fun k hk => by omega⟩, Below.refl _ _, fun _ _ => rfl⟩
    rcases A with _ | a
    · simp [Builtin.append_, run_underlying ht, sizeOf, typeInfo, hi, Builtin.lenOf, Builtin.firstCells, storeCells]
    · simp [Builtin.append_, run_underlying ht, sizeOf, typeInfo, hi, Builtin.lenOf, Builtin.firstCells, storeCells, loadCells, loadCellsFrom]
  · have hMp : 0 < M := by rw [hM]; exact Nat.mul_pos h0 hsz
    obtain ⟨b, o, rfl, hc⟩ := ha.2 hMp
    obtain ⟨news, hnw⟩ : ∃ news, news = (List.range M).map h := ⟨_, rfl⟩
    have hnl : news.length = M := by rw [hnw]; simp
    have hng : ∀ {k : Nat}, k < M → news[k]? = some (h k) := fun {k} hk => by rw [hnw]; simp [hk]
    have hnews : ∀ j u, news[j]? = some u → w.cell? ((⟨b, o, none⟩ : Addr).add j) = some u := fun j u hj => by
      have hj2 : j < M := by
        have := (List.getElem?_eq_some_iff.1 hj).1
        omega
      have hadd : (⟨b, o, none⟩ : Addr).add j = ⟨b, o + j, none⟩ := by unfold Addr.add; split <;> simp_all
      rw [hadd, hc j hj2, ← hng hj2]
      exact hj
    have hml : maxLen = 9223372036854775807 := rfl
    have hlen : news.length = m * i.size := by rw [hnl, hM, hsize]
    have hge := grownCap_ge w m 0 e
    have hcm : grownCap w m 0 e ≤ maxLen := grownCap_le_maxLen w m 0 e h63
    have hr := run_append_grow (P := P) w t ty e i z ht hi hz ⟨q, 0, none⟩ 0 0 [] (by simp) (fun j u hj => by simp at hj) ⟨b, o, none⟩ m c news hlen hnews (by omega) (by omega) (by rw [hby]; exact growslice_fits (by omega) (by rw [Nat.zero_add]; exact hbytes))
    simp only [Nat.zero_add, Array.empty_append] at hr
    refine ⟨_, _, lab f w.heap.size l, hr, .inr ⟨w.heap.size, 0, _, _, rfl, hge, by omega, lab_at _ _ _, Nat.le_trans hBq (Nat.le_of_lt hq.lt), heap_alloc_new w.drew _, ?_, fun k hk => ?_⟩, ⟨rfl, rfl, rfl, by simp, fun k hk => Below.heap_alloc w.drew _ k hk⟩, fun b hb => lab_old hb⟩
    · simp only [Array.size_append, List.size_toArray, size_zeroCells, hzs, hnl]
      rw [hM, ← Nat.add_mul, Nat.zero_add]
      exact Nat.mul_le_mul_right _ (by omega)
    · rw [← hM] at hk
      rw [Nat.zero_add, Array.getElem?_append_left (by rw [List.size_toArray, hnl]; exact hk), List.getElem?_toArray]
      exact hng hk
theorem step_append {ops : Array Oper} {Q : Exit → Act → World → Prop} {o : Oper} {a : Act} {w' : World} {K : Act → World → Prop} (s x : Operand) (t : TypeId) {vs vx v' : Value}
    (ho : o.op = .call { callee := .builtin .append, args := #[s, x], argTypes := #[t, t] }) (hw : Region.wanted o (yielded ops a.tmps) = true) (hs : a.eval s = vs) (hx : a.eval x = vx)
    (hr : (Builtin.append_ #[t, t] o.type #[vs, vx]).run P w = .ok v' w') (h : K (a.put o.dst v') w') :
    if Region.wanted o (yielded ops a.tmps) = true then Oper.wp P o a w K Q else K (a.put o.dst undef) w := by
  rw [if_pos hw]
  unfold Oper.wp execOp
  simp only [ho, resolve, invoke, builtin, Sem.run_bind, Sem.run_pure, Result.andThen_ok, List.map_toArray, List.map_cons, List.map_nil, hs, hx, hr]
  exact h
end
theorem Sl.fresh (t : TypeId) (sz : Nat) (w : World) (f : Nat → Nat) {l B : Nat} (hB : B ≤ w.heap.size) (g : Nat → Value) : Sl t sz (w.alloc (.cells #[] t)) (lab f w.heap.size l) l B (.slice (some ⟨w.heap.size, 0, none⟩) 0 0) 0 g :=
  .inr ⟨w.heap.size, 0, 0, #[], rfl, Nat.le_refl _, by omega, lab_at _ _ _, hB, Blk.new w t #[], by simp, fun k hk => by omega⟩
theorem CellsAt.below {w w' : World} {A : Option Addr} {N B : Nat} {g : Nat → Value} (h : CellsAt w A N g) (hb : Below B w w') (hA : ∀ b off, 0 < N → A = some ⟨b, off, none⟩ → b < B) : CellsAt w' A N g :=
  ⟨h.1, fun hp => by
    obtain ⟨b, off, e, hc⟩ := h.2 hp
    exact ⟨b, off, e, fun k hk => (below_keep hb (S := fun x => x = b) (fun x hx => by rw [hx]; exact hA b off hp e) b (off + k) rfl).trans (hc k hk)⟩⟩
theorem CellsAt.next {w w' : World} {A : Option Addr} {N : Nat} {g : Nat → Value} (h : CellsAt w A N g) (hb : Below w.heap.size w w') : CellsAt w' A N g :=
  h.below hb fun b off hp e => by
    obtain ⟨b', off', e', hc⟩ := h.2 hp
    rw [e] at e'
    cases e'
    exact World.block_lt_of_cell? w _ (hc 0 hp)
end Go.Proofs.Ytfnphnjadknoaaa

namespace Go.Proofs.Ytfnphnjadknoaaa
open Go.RowKit

set_option maxRecDepth 100000 in
set_option maxHeartbeats 1600000 in
theorem cloneBool_sl (l B : Nat) (f0 : Nat → Nat) (A : Option Addr) (n c : Nat) (g : Nat → Value) (w : World) (hn : n ≤ 1048576) (hB : B ≤ w.heap.size) (ha : CellsAt w A (n * 1) g) :
    Calls Try.prog 107 #[.slice A n c] w fun e w' => ∃ v f, e = .returned v ∧ Sl 4 1 w' f l B v n g ∧ Below w.heap.size w w' ∧ ∀ b, b < w.heap.size → f b = f0 b := by
  rcases A with _ | ad
  · obtain rfl : n = 0 := by
      rcases Nat.eq_zero_or_pos n with h | h
      · exact h
      · obtain ⟨b, off, e, _⟩ := ha.2 (by omega)
        cases e
    clear hn ha
    have he : ∀ w : World, (binOp .eql 25 (.slice none 0 c) (.slice none 0 0)).run Try.prog w = .ok (.bool true) w := fun _ => by kernel_rfl
    go_enter Try.func107, Try.ntmps107
    go_wp2
    go_ret
    exact ⟨_, f0, rfl, Sl.nil _ _ _ _ _ _ _, Below.refl _ _, fun _ _ => rfl⟩
  · obtain ⟨i1, hi1, hy0, hy1, hy2⟩ := info_parts Try.infoBoolB
    have hb0 := below1 w (Obj.cells #[] 4)
    have hsrc := hide (ha.next hb0)
    have hS0 := hide (Sl.fresh 4 1 w f0 (l := l) (Nat.le_refl w.heap.size) g)
    clear ha
    have he : ∀ w : World, (binOp .eql 25 (.slice (some ad) n c) (.slice none 0 0)).run Try.prog w = .ok (.bool false) w := fun _ => by kernel_rfl
    go_enter Try.func107, Try.ntmps107
    go_wp2_with (at_builtin; refine wpList_append_slv _ rfl _ _ _ rfl 4 i1 _ 1 1 Try.underlying25 hi1 hy0 hy1 hy2 rfl (by omega) (.slice (some ⟨w.heap.size, 0, none⟩) 0 0) 0 g rfl hS0.out (some ad) n c g rfl hsrc.out (by have : maxLen = 9223372036854775807 := rfl; omega) (by omega) (by simp) ?_)
    intro v2 w2 f2 hv2 hL2 hf2
    have hv4 : Sl 4 1 w2 f2 l w.heap.size v2 n (gThen g 0 g) := by simpa using hv2
    have hv3 := hide ((hv4.base hB).congr (g' := g) (fun k _ => (gThen_hi (Nat.zero_le _)).symm))
    have hb3 := hide (hb0.trans (hL2.below (Nat.le_of_lt (by simp))))
    have hf3 := hide (show ∀ b, b < w.heap.size → f2 b = f0 b from fun b hb => (hf2 b (by omega)).trans (lab_old hb))
    clear hv2 hv4 hL2 hf2
    go_wp2_with fail
    go_ret
    exact ⟨v2, f2, rfl, hv3.out, hb3.out, hf3.out⟩

set_option maxRecDepth 100000 in
set_option maxHeartbeats 1600000 in
theorem cloneInt_sl (l B : Nat) (f0 : Nat → Nat) (A : Option Addr) (n c : Nat) (g : Nat → Value) (w : World) (hn : n ≤ 1048576) (hB : B ≤ w.heap.size) (ha : CellsAt w A (n * 1) g) :
    Calls Try.prog 108 #[.slice A n c] w fun e w' => ∃ v f, e = .returned v ∧ Sl 3 1 w' f l B v n g ∧ Below w.heap.size w w' ∧ ∀ b, b < w.heap.size → f b = f0 b := by
  rcases A with _ | ad
  · obtain rfl : n = 0 := by
      rcases Nat.eq_zero_or_pos n with h | h
      · exact h
      · obtain ⟨b, off, e, _⟩ := ha.2 (by omega)
        cases e
    clear hn ha
    have he : ∀ w : World, (binOp .eql 26 (.slice none 0 c) (.slice none 0 0)).run Try.prog w = .ok (.bool true) w := fun _ => by kernel_rfl
    go_enter Try.func108, Try.ntmps108
    go_wp2
    go_ret
    exact ⟨_, f0, rfl, Sl.nil _ _ _ _ _ _ _, Below.refl _ _, fun _ _ => rfl⟩
  · obtain ⟨i1, hi1, hy0, hy1, hy2⟩ := info_parts Try.infoInt
    have hb0 := below1 w (Obj.cells #[] 3)
    have hsrc := hide (ha.next hb0)
    have hS0 := hide (Sl.fresh 3 1 w f0 (l := l) (Nat.le_refl w.heap.size) g)
    clear ha
    have he : ∀ w : World, (binOp .eql 26 (.slice (some ad) n c) (.slice none 0 0)).run Try.prog w = .ok (.bool false) w := fun _ => by kernel_rfl
    go_enter Try.func108, Try.ntmps108
    go_wp2_with (at_builtin; refine wpList_append_slv _ rfl _ _ _ rfl 3 i1 _ 1 8 Try.underlying26 hi1 hy0 hy1 hy2 rfl (by omega) (.slice (some ⟨w.heap.size, 0, none⟩) 0 0) 0 g rfl hS0.out (some ad) n c g rfl hsrc.out (by have : maxLen = 9223372036854775807 := rfl; omega) (by omega) (by simp) ?_)
    intro v2 w2 f2 hv2 hL2 hf2
    have hv4 : Sl 3 1 w2 f2 l w.heap.size v2 n (gThen g 0 g) := by simpa using hv2
    have hv3 := hide ((hv4.base hB).congr (g' := g) (fun k _ => (gThen_hi (Nat.zero_le _)).symm))
    have hb3 := hide (hb0.trans (hL2.below (Nat.le_of_lt (by simp))))
    have hf3 := hide (show ∀ b, b < w.heap.size → f2 b = f0 b from fun b hb => (hf2 b (by omega)).trans (lab_old hb))
    clear hv2 hv4 hL2 hf2
    go_wp2_with fail
    go_ret
    exact ⟨v2, f2, rfl, hv3.out, hb3.out, hf3.out⟩

set_option maxRecDepth 100000 in
set_option maxHeartbeats 1600000 in
theorem cloneJob_sl (l B : Nat) (f0 : Nat → Nat) (A : Option Addr) (n c : Nat) (g : Nat → Value) (w : World) (hn : n ≤ 1048576) (hB : B ≤ w.heap.size) (ha : CellsAt w A (n * 2) g) :
    Calls Try.prog 116 #[.slice A n c] w fun e w' => ∃ v f, e = .returned v ∧ Sl 42 2 w' f l B v n g ∧ Below w.heap.size w w' ∧ ∀ b, b < w.heap.size → f b = f0 b := by
  rcases A with _ | ad
  · obtain rfl : n = 0 := by
      rcases Nat.eq_zero_or_pos n with h | h
      · exact h
      · obtain ⟨b, off, e, _⟩ := ha.2 (by omega)
        cases e
    clear hn ha
    have he : ∀ w : World, (binOp .eql 23 (.slice none 0 c) (.slice none 0 0)).run Try.prog w = .ok (.bool true) w := fun _ => by kernel_rfl
    go_enter Try.func116, Try.ntmps116
    go_wp2
    go_ret
    exact ⟨_, f0, rfl, Sl.nil _ _ _ _ _ _ _, Below.refl _ _, fun _ _ => rfl⟩
  · obtain ⟨i1, hi1, hy0, hy1, hy2⟩ := info_parts Try.infoJobT
    have hb0 := below1 w (Obj.cells #[] 42)
    have hsrc := hide (ha.next hb0)
    have hS0 := hide (Sl.fresh 42 2 w f0 (l := l) (Nat.le_refl w.heap.size) g)
    clear ha
    have he : ∀ w : World, (binOp .eql 23 (.slice (some ad) n c) (.slice none 0 0)).run Try.prog w = .ok (.bool false) w := fun _ => by kernel_rfl
    go_enter Try.func116, Try.ntmps116
    go_wp2_with (at_builtin; refine wpList_append_slv _ rfl _ _ _ rfl 42 i1 _ 2 32 Try.underlying23 hi1 hy0 hy1 hy2 rfl (by omega) (.slice (some ⟨w.heap.size, 0, none⟩) 0 0) 0 g rfl hS0.out (some ad) n c g rfl hsrc.out (by have : maxLen = 9223372036854775807 := rfl; omega) (by omega) (by simp) ?_)
    intro v2 w2 f2 hv2 hL2 hf2
    have hv4 : Sl 42 2 w2 f2 l w.heap.size v2 n (gThen g 0 g) := by simpa using hv2
    have hv3 := hide ((hv4.base hB).congr (g' := g) (fun k _ => (gThen_hi (Nat.zero_le _)).symm))
    have hb3 := hide (hb0.trans (hL2.below (Nat.le_of_lt (by simp))))
    have hf3 := hide (show ∀ b, b < w.heap.size → f2 b = f0 b from fun b hb => (hf2 b (by omega)).trans (lab_old hb))
    clear hv2 hv4 hL2 hf2
    go_wp2_with fail
    go_ret
    exact ⟨v2, f2, rfl, hv3.out, hb3.out, hf3.out⟩

set_option maxRecDepth 100000 in
set_option maxHeartbeats 1600000 in
theorem cloneRow_sl (l B : Nat) (f0 : Nat → Nat) (A : Option Addr) (n c : Nat) (g : Nat → Value) (w : World) (hn : n ≤ 1048576) (hB : B ≤ w.heap.size) (ha : CellsAt w A (n * 1) g) :
    Calls Try.prog 122 #[.slice A n c] w fun e w' => ∃ v f, e = .returned v ∧ Sl 35 1 w' f l B v n g ∧ Below w.heap.size w w' ∧ ∀ b, b < w.heap.size → f b = f0 b := by
  rcases A with _ | ad
  · obtain rfl : n = 0 := by
      rcases Nat.eq_zero_or_pos n with h | h
      · exact h
      · obtain ⟨b, off, e, _⟩ := ha.2 (by omega)
        cases e
    clear hn ha
    have he : ∀ w : World, (binOp .eql 24 (.slice none 0 c) (.slice none 0 0)).run Try.prog w = .ok (.bool true) w := fun _ => by kernel_rfl
    go_enter Try.func122, Try.ntmps122
    go_wp2
    go_ret
    exact ⟨_, f0, rfl, Sl.nil _ _ _ _ _ _ _, Below.refl _ _, fun _ _ => rfl⟩
  · obtain ⟨i1, hi1, hy0, hy1, hy2⟩ := info_parts Try.infoRowT
    have hb0 := below1 w (Obj.cells #[] 35)
    have hsrc := hide (ha.next hb0)
    have hS0 := hide (Sl.fresh 35 1 w f0 (l := l) (Nat.le_refl w.heap.size) g)
    clear ha
    have he : ∀ w : World, (binOp .eql 24 (.slice (some ad) n c) (.slice none 0 0)).run Try.prog w = .ok (.bool false) w := fun _ => by kernel_rfl
    go_enter Try.func122, Try.ntmps122
    go_wp2_with (at_builtin; refine wpList_append_slv _ rfl _ _ _ rfl 35 i1 _ 1 24 Try.underlying24 hi1 hy0 hy1 hy2 rfl (by omega) (.slice (some ⟨w.heap.size, 0, none⟩) 0 0) 0 g rfl hS0.out (some ad) n c g rfl hsrc.out (by have : maxLen = 9223372036854775807 := rfl; omega) (by omega) (by simp) ?_)
    intro v2 w2 f2 hv2 hL2 hf2
    have hv4 : Sl 35 1 w2 f2 l w.heap.size v2 n (gThen g 0 g) := by simpa using hv2
    have hv3 := hide ((hv4.base hB).congr (g' := g) (fun k _ => (gThen_hi (Nat.zero_le _)).symm))
    have hb3 := hide (hb0.trans (hL2.below (Nat.le_of_lt (by simp))))
    have hf3 := hide (show ∀ b, b < w.heap.size → f2 b = f0 b from fun b hb => (hf2 b (by omega)).trans (lab_old hb))
    clear hv2 hv4 hL2 hf2
    go_wp2_with fail
    go_ret
    exact ⟨v2, f2, rfl, hv3.out, hb3.out, hf3.out⟩

theorem IntsAt.cells {w : World} {S : Nat → Prop} {A : Option Addr} {zs : List Int} (h : IntsAt w S A zs) : CellsAt w A (zs.length * 1) (gI zs) :=
  ⟨fun _ _ => rfl, fun hp => by
    obtain ⟨b, off, e, _, hc⟩ := h.2 (by omega)
    exact ⟨b, off, e, fun k hk => hc k (by omega)⟩⟩
theorem BlsAt.cells {w : World} {S : Nat → Prop} {A : Option Addr} {bs : List Bool} (h : BlsAt w S A bs) : CellsAt w A (bs.length * 1) (gB bs) :=
  ⟨fun _ _ => rfl, fun hp => by
    obtain ⟨b, off, e, _, hc⟩ := h.2 (by omega)
    exact ⟨b, off, e, fun k hk => hc k (by omega)⟩⟩
theorem DqAt.cells {w : World} {S : Nat → Prop} {A : Option Addr} {rs : List (List Int)} (h : DqAt w S A rs) : ∃ (A' : Nat → Option Addr) (c' : Nat → Nat), CellsAt w A (rs.length * 1) (fun k => .slice (A' k) (getq rs k).length (c' k)) ∧ ∀ k, k < rs.length → IntsAt w S (A' k) (getq rs k) := by
  have hp : ∀ k, ∃ q : Option Addr × Nat, k < rs.length → (∀ b off, A = some ⟨b, off, none⟩ → w.cell? ⟨b, off + k, none⟩ = some (.slice q.1 (getq rs k).length q.2)) ∧ IntsAt w S q.1 (getq rs k) := fun k => by
    by_cases hk : k < rs.length
    · obtain ⟨b, off, e, -, A', c', hc, -, hi⟩ := h.at_ hk
      refine ⟨(A', c'), fun _ => ⟨fun b' off' e' => ?_, hi⟩⟩
      rw [e] at e'
      cases e'
      exact hc
    · exact ⟨(none, 0), fun h => absurd h hk⟩
  obtain ⟨q, hq⟩ := Classical.axiomOfChoice hp
  refine ⟨fun k => (q k).1, fun k => (q k).2, ⟨fun _ _ => rfl, fun h0 => ?_⟩, fun k hk => (hq k hk).2⟩
  obtain ⟨b, off, e, -⟩ := h.at_ (k := 0) (by omega)
  exact ⟨b, off, e, fun k hk => (hq k (by omega)).1 b off e⟩
theorem JobsAt.cells {w : World} {S : Nat → Prop} {A : Option Addr} {l : List JobD} (h : JobsAt w S A l) : ∃ (A' : Nat → Option Addr) (c' : Nat → Nat), CellsAt w A (l.length * 2) (gJob l (fun k => .slice (A' k) (getj l k).ks.length (c' k))) ∧ ∀ k, k < l.length → IntsAt w S (A' k) (getj l k).ks := by
  have hp : ∀ k, ∃ q : Option Addr × Nat, k < l.length → (∀ b off, A = some ⟨b, off, none⟩ → w.cell? ⟨b, off + k * 2, none⟩ = some (.int .i64 (getj l k).v) ∧ w.cell? ⟨b, off + (k * 2 + 1), none⟩ = some (.slice q.1 (getj l k).ks.length q.2)) ∧ IntsAt w S q.1 (getj l k).ks := fun k => by
    by_cases hk : k < l.length
    · obtain ⟨b, off, e, -, hv, A', c', hc, -, hi⟩ := h.at_ hk
      refine ⟨(A', c'), fun _ => ⟨fun b' off' e' => ?_, hi⟩⟩
      rw [e] at e'
      cases e'
      exact ⟨hv, by rw [← Nat.add_assoc]; exact hc⟩
    · exact ⟨(none, 0), fun h => absurd h hk⟩
  obtain ⟨q, hq⟩ := Classical.axiomOfChoice hp
  refine ⟨fun k => (q k).1, fun k => (q k).2, ⟨fun k _ => ?_, fun h0 => ?_⟩, fun k hk => (hq k hk).2⟩
  · unfold gJob
    by_cases e : k % 2 = 0
    · rw [if_pos e]; rfl
    · rw [if_neg e]; rfl
  obtain ⟨b, off, e, -⟩ := h.at_ (k := 0) (by omega)
  refine ⟨b, off, e, fun k hk => ?_⟩
  obtain ⟨h1, h2⟩ := (hq (k / 2) (by omega)).1 b off e
  rcases Nat.mod_two_eq_zero_or_one k with h3 | h3
  · obtain ⟨m, rfl⟩ : ∃ m, k = m * 2 := ⟨k / 2, by omega⟩
    rw [gJob_v]
    rw [show m * 2 / 2 = m by omega] at h1
    exact h1
  · obtain ⟨m, rfl⟩ : ∃ m, k = m * 2 + 1 := ⟨k / 2, by omega⟩
    rw [gJob_k]
    rw [show (m * 2 + 1) / 2 = m by omega] at h2
    exact h2
end Go.Proofs.Ytfnphnjadknoaaa
