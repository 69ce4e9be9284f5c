/- Slices whose blocks bear labels: what is in one piece is in no other's block. Of no function of the program. -/
import Derived.Test.YtfnphnjadknoaaaMp0
import Derived.Test.YtfnphnjadknoaaaMp1
import Derived.Maps.AppendAt
import Derived.Laws.CopyRow
namespace Go.Proofs.Ytfnphnjadknoaaa
open Go.RowKit

def Sl (t : TypeId) (sz : Nat) (w : World) (f : Nat → Nat) (l B : Nat) (v : Value) (n : Nat) (g : Nat → Value) : Prop :=
  (v = .slice none 0 0 ∧ n = 0) ∨ ∃ q off c cs, v = .slice (some ⟨q, off, none⟩) n c ∧ n ≤ c ∧ c ≤ 9223372036854775807 ∧ f q = l ∧ B ≤ q ∧ Blk w q t cs ∧ off + c * sz ≤ cs.size ∧ ∀ k, k < n * sz → cs[off + k]? = some (g k)
structure Lab (f : Nat → Nat) (l B : Nat) (w w' : World) : Prop where
  os : w'.os = w.os
  tape : w'.tape = w.tape
  output : w'.output = w.output
  size : w.heap.size ≤ w'.heap.size
  block : ∀ k, k < w.heap.size → ¬ (f k = l ∧ B ≤ k) → w'.heap[k]? = w.heap[k]?
def lab (f : Nat → Nat) (q l : Nat) : Nat → Nat := fun b => if b = q then l else f b
theorem lab_at (f : Nat → Nat) (q l : Nat) : lab f q l q = l := if_pos rfl
theorem lab_old {f : Nat → Nat} {q l b : Nat} (h : b < q) : lab f q l b = f b := if_neg (by omega)

section
variable {t : TypeId} {sz : Nat} {w w' w'' : World} {f f' : Nat → Nat} {l l' B B' n : Nat} {v : Value} {g g' : Nat → Value}
theorem Lab.refl (f : Nat → Nat) (l B : Nat) (w : World) : Lab f l B w w := ⟨rfl, rfl, rfl, Nat.le_refl _, fun _ _ _ => rfl⟩
theorem Lab.trans (h : Lab f l B w w') (k : Lab f l B w' w'') : Lab f l B w w'' :=
  ⟨k.os.trans h.os, k.tape.trans h.tape, k.output.trans h.output, Nat.le_trans h.size k.size, fun i hi hn => (k.block i (Nat.lt_of_lt_of_le hi h.size) hn).trans (h.block i hi hn)⟩
theorem Lab.of_below (h : Below w.heap.size w w') : Lab f l B w w' := ⟨h.os, h.tape, h.output, h.size, fun k hk _ => h.block k hk⟩
theorem Lab.of_only {q : Nat} (h : Only q w w') (hq : f q = l ∧ B ≤ q) : Lab f l B w w' := ⟨h.os, h.tape, h.output, h.size, fun k hk hn => h.block k hk (fun e => hn (by rw [e]; exact hq))⟩
theorem Lab.set_ {p : Addr} (hp : f p.block = l ∧ B ≤ p.block) (u : Value) : Lab f l B w (w.setCell p u) :=
  ⟨rfl, rfl, rfl, by simp, fun k _ hn => Below.heap_setCell w p u k (fun e => hn (by rw [e]; exact hp))⟩
theorem Lab.below (h : Lab f l B w w') (hB : B ≤ w.heap.size) : Below B w w' := ⟨h.os, h.tape, h.output, h.size, fun k hk => h.block k (by omega) (fun e => by omega)⟩
theorem Lab.drew (h : Lab f l B w w') : Lab f l B w w'.drew := ⟨h.os, h.tape, h.output, h.size, h.block⟩
theorem Lab.alloc (h : Lab f l B w w') (o : Obj) : Lab f l B w (w'.alloc o) := h.trans (.of_below (below1 w' o))
theorem Lab.blk {q : Nat} {cs : Array Value} (h : Lab f l B w w') (hb : Blk w q t cs) (hq : f q ≠ l) : Blk w' q t cs := (h.block q hb.lt (fun e => hq e.1)).trans hb
theorem Lab.blk_lo {q : Nat} {cs : Array Value} (h : Lab f l B w w') (hb : Blk w q t cs) (hq : q < B) : Blk w' q t cs := (h.block q hb.lt (fun e => by omega)).trans hb

theorem Sl.form (h : Sl t sz w f l B v n g) : ∃ A c, v = .slice A n c := by
  rcases h with ⟨rfl, rfl⟩ | ⟨q, off, c, cs, rfl, _⟩
  · exact ⟨_, _, rfl⟩
  · exact ⟨_, _, rfl⟩
theorem Sl.formC (h : Sl t sz w f l B v n g) : ∃ A c, v = .slice A n c ∧ n ≤ c := by
  rcases h with ⟨rfl, rfl⟩ | ⟨q, off, c, cs, rfl, hc, _⟩
  · exact ⟨_, _, rfl, Nat.le_refl _⟩
  · exact ⟨_, _, rfl, hc⟩
theorem Sl.le (h : Sl t sz w f l B v n g) : n ≤ 9223372036854775807 := by
  rcases h with ⟨rfl, rfl⟩ | ⟨q, off, c, cs, rfl, hc, hm, _⟩
  · omega
  · omega
theorem Sl.nil (t : TypeId) (sz : Nat) (w : World) (f : Nat → Nat) (l B : Nat) (g : Nat → Value) : Sl t sz w f l B (.slice none 0 0) 0 g := .inl ⟨rfl, rfl⟩
theorem Sl.keep (h : Sl t sz w f l B v n g) (hk : ∀ b, f b = l → B ≤ b → b < w.heap.size → w'.heap[b]? = w.heap[b]?) : Sl t sz w' f l B v n g := by
  rcases h with h | ⟨q, off, c, cs, e, h1, h2, h3, h4, h5, h6, h7⟩
  · exact .inl h
  · exact .inr ⟨q, off, c, cs, e, h1, h2, h3, h4, (hk q h3 h4 h5.lt).trans h5, h6, h7⟩
theorem Sl.next (h : Sl t sz w f l B v n g) (hb : Below w.heap.size w w') : Sl t sz w' f l B v n g := h.keep (fun b _ _ hl => hb.block b hl)
theorem Sl.other (h : Sl t sz w f l B v n g) (hL : Lab f l' B' w w') (hne : l ≠ l') : Sl t sz w' f l B v n g := h.keep (fun b hf _ hl => hL.block b hl (fun e => hne (hf.symm.trans e.1)))
theorem Sl.relab (h : Sl t sz w f l B v n g) (hf : ∀ b, b < w.heap.size → f' b = f b) : Sl t sz w f' l B v n g := by
  rcases h with h | ⟨q, off, c, cs, e, h1, h2, h3, h4, h5, h6, h7⟩
  · exact .inl h
  · exact .inr ⟨q, off, c, cs, e, h1, h2, (hf q h5.lt).trans h3, h4, h5, h6, h7⟩
theorem Sl.relabel (h : Sl t sz w f l B v n g) (hf : ∀ b, f b = l → B ≤ b → b < w.heap.size → f' b = l') : Sl t sz w f' l' B v n g := by
  rcases h with h | ⟨q, off, c, cs, e, h1, h2, h3, h4, h5, h6, h7⟩
  · exact .inl h
  · exact .inr ⟨q, off, c, cs, e, h1, h2, hf q h3 h4 h5.lt, h4, h5, h6, h7⟩
theorem Sl.base (h : Sl t sz w f l B v n g) (hB : B' ≤ B) : Sl t sz w f l B' v n g := by
  rcases h with h | ⟨q, off, c, cs, e, h1, h2, h3, h4, h5, h6, h7⟩
  · exact .inl h
  · exact .inr ⟨q, off, c, cs, e, h1, h2, h3, Nat.le_trans hB h4, h5, h6, h7⟩
theorem Sl.congr (h : Sl t sz w f l B v n g) (hg : ∀ k, k < n * sz → g' k = g k) : Sl t sz w f l B v n g' := by
  rcases h with h | ⟨q, off, c, cs, e, h1, h2, h3, h4, h5, h6, h7⟩
  · exact .inl h
  · exact .inr ⟨q, off, c, cs, e, h1, h2, h3, h4, h5, h6, fun k hk => by rw [hg k hk]; exact h7 k hk⟩
theorem Sl.at_ (h : Sl t sz w f l B v n g) {k : Nat} (hk : k < n * sz) : ∃ q off c, v = .slice (some ⟨q, off, none⟩) n c ∧ f q = l ∧ B ≤ q ∧ q < w.heap.size ∧ ∀ k, k < n * sz → w.cell? ⟨q, off + k, none⟩ = some (g k) ∧ w.frozen? ⟨q, off + k, none⟩ = false := by
  rcases h with ⟨rfl, rfl⟩ | ⟨q, off, c, cs, e, h1, h2, h3, h4, h5, h6, h7⟩
  · omega
  · exact ⟨q, off, c, e, h3, h4, h5.lt, fun k hk => ⟨(h5.cell _).trans (h7 k hk), h5.frozen _⟩⟩
theorem Sl.set_ (h : Sl t sz w f l B v n g) {q off c k : Nat} (hv : v = .slice (some ⟨q, off, none⟩) n c) (hk : k < n * sz) (u : Value) : Sl t sz (w.setCell ⟨q, off + k, none⟩ u) f l B v n (fun j => if j = k then u else g j) := by
  rcases h with ⟨rfl, rfl⟩ | ⟨q', off', c', cs, e, h1, h2, h3, h4, h5, h6, h7⟩
  · cases hv
  · rw [hv] at e
    cases e
    refine .inr ⟨q, off, c, cs.setIfInBounds (off + k) u, hv, h1, h2, h3, h4, h5.set_ _ _, by rw [Array.size_setIfInBounds]; exact h6, fun j hj => ?_⟩
    rw [Array.getElem?_setIfInBounds]
    by_cases e : j = k
    · have h8 := h7 k hk
      have : off + k < cs.size := (Array.getElem?_eq_some_iff.1 h8).1
      subst e
      rw [if_pos rfl, if_pos this]
      show some u = some (if j = j then u else g j)
      rw [if_pos rfl]
    · rw [if_neg (by omega)]
      show _ = some (if j = k then u else g j)
      rw [if_neg e]
      exact h7 j hj
theorem Sl.new {q : Nat} {cs : Array Value} (h : Blk w q t cs) (hf : f q = l) (hB : B ≤ q) (hn : n ≤ 9223372036854775807) (hs : n * sz ≤ cs.size) (hg : ∀ k, k < n * sz → cs[k]? = some (g k)) : Sl t sz w f l B (.slice (some ⟨q, 0, none⟩) n n) n g :=
  .inr ⟨q, 0, n, cs, rfl, Nat.le_refl _, hn, hf, hB, h, by omega, fun k hk => by rw [Nat.zero_add]; exact hg k hk⟩
theorem Sl.of_own {xs : List Value} (h : w.ownsRow B t sz v n xs) (hf : ∀ b, v.ownBlock = some b → f b = l) (hg : ∀ k, k < n * sz → xs[k]? = some (g k)) : Sl t sz w f l B v n g := by
  rcases h.2 with ⟨rfl, rfl⟩ | ⟨q, cap, cur, rfl, hb, hh, hcap, hmax, hcs, ht⟩
  · exact .inl ⟨rfl, rfl⟩
  · refine .inr ⟨q, 0, cap, cur, rfl, hcap, by unfold maxLen at hmax; exact hmax, hf q rfl, hb, hh, by omega, fun k hk => ?_⟩
    have h1 : cur.toList[k]? = xs[k]? := by rw [← ht, List.getElem?_take, if_pos hk]
    rw [Nat.zero_add, ← Array.getElem?_toList, h1]
    exact hg k hk
def gI (zs : List Int) : Nat → Value := fun k => .int .i64 (geti zs k)
theorem Sl.ints {zs : List Int} (h : Sl t 1 w f l B v zs.length (gI zs)) {A : Option Addr} {m c : Nat} (hv : v = .slice A m c) : IntsAt w (fun b => f b = l ∧ B ≤ b ∧ b < w.heap.size) A zs := by
  refine ⟨h.le, fun hp => ?_⟩
  obtain ⟨q, off, c', e, h3, h4, h5, h6⟩ := h.at_ (k := 0) (by omega)
  rw [hv] at e
  cases e
  exact ⟨q, off, rfl, ⟨h3, h4, h5⟩, fun k hk => (h6 k (by omega)).1⟩
theorem Sl.intsO {zs : List Int} (h : Sl t 1 w f l B v zs.length (gI zs)) {A : Option Addr} {m c : Nat} (hv : v = .slice A m c) : IntsAt w (Old w.heap.size) A zs := (h.ints hv).more (fun _ h => h.2.2)
theorem Sl.tail {q off c : Nat} (h : Sl t 1 w f l B (.slice (some ⟨q, off, none⟩) (n + 1) (c + 1)) (n + 1) g) : Sl t 1 w f l B (.slice (some ⟨q, off + 1, none⟩) n c) n (fun k => g (k + 1)) := by
  rcases h with ⟨e, _⟩ | ⟨q', off', c', cs, e, h1, h2, h3, h4, h5, h6, h7⟩
  · cases e
  · cases e
    exact .inr ⟨q, off + 1, c, cs, rfl, by omega, by omega, h3, h4, h5, by omega, fun k hk => by
      have := h7 (k + 1) (by omega)
      rwa [← Nat.add_assoc, Nat.add_right_comm] at this⟩
theorem Sl.init {A : Option Addr} {c m : Nat} (h : Sl t sz w f l B (.slice A n c) n g) (hm : m ≤ n) (hp : 0 < n) : Sl t sz w f l B (.slice A m c) m g := by
  rcases h with ⟨e, h0⟩ | ⟨q', off', c', cs, e, h1, h2, h3, h4, h5, h6, h7⟩
  · omega
  · cases e
    exact .inr ⟨q', off', c, cs, rfl, by omega, h2, h3, h4, h5, h6, fun k hk => h7 k (Nat.lt_of_lt_of_le hk (Nat.mul_le_mul_right _ hm))⟩
end

section
variable {P : Program} (w : World)
theorem run_append_off (t ty e : TypeId) (i : TypeInfo) (ht : P.underlying t = some (.slice e)) (hi : P.info? e = some i)
    (g off sLen sCap : Nat) (cur : Array Value) (hg : w.heap[g]? = some (.cells cur e (0, 0)))
    (a : Addr) (m c : Nat) (news : List Value) (hl : news.length = m * i.size) (hnews : ∀ j u, news[j]? = some u → w.cell? (a.add j) = some u) (h1 : ∀ u ∈ news, u.oneCell' = true)
    (hroom : sLen + m ≤ sCap) (hfit : off + sLen * i.size + news.length ≤ cur.size) :
    (Builtin.append_ #[t, t] ty #[.slice (some ⟨g, off, none⟩) sLen sCap, .slice (some a) m c]).run P w =
      .ok (.slice (some ⟨g, off, none⟩) (sLen + m) sCap) (w.setRow g (cur.toList.take (off + sLen * i.size) ++ news ++ cur.toList.drop (off + sLen * i.size + news.length)).toArray) := by
  have hf := run_firstCells_some (P := P) w i.size m a m c news hl hnews
  have hst := run_storeCells_at (P := P) g (off + sLen * i.size) e news 0 cur w hg (by simpa using hfit) h1
  simp only [Nat.add_zero] at hst
  have hadd : (⟨g, off, none⟩ : Addr).add (sLen * i.size) = ⟨g, off + sLen * i.size, none⟩ := by unfold Addr.add; split <;> simp_all
  simp [Builtin.append_, run_underlying ht, sizeOf, typeInfo, hi, Builtin.lenOf, hroom, hf, hadd, hst]

def gApp (g : Nat → Value) (n : Nat) (zs : List Int) : Nat → Value := fun k => if k < n then g k else .int .i64 (geti zs (k - n))
theorem run_append_sl {f : Nat → Nat} {l B : Nat} (t ty e : TypeId) (i : TypeInfo) (z : Value) (bytes : Nat) (ht : P.underlying t = some (.slice e)) (hi : P.info? e = some i) (hz : i.zero = some z)
    (hsize : i.size = 1) (hby : i.bytes = bytes) (hzs : z.cells.size = 1)
    (v : Value) (n : Nat) (g : Nat → Value) (hv : Sl e 1 w f l B v n g) (S : Nat → Prop) (A : Option Addr) (m c : Nat) (zs : List Int) (hl : zs.length = m) (ha : IntsAt w S A zs)
    (h63 : n + m ≤ maxLen) (hbytes : (n + m) * bytes ≤ 140737488355328) (hB : B ≤ w.heap.size) :
    ∃ v' w' f', (Builtin.append_ #[t, t] ty #[v, .slice A m c]).run P w = .ok v' w' ∧ Sl e 1 w' f' l B v' (n + m) (gApp g n zs) ∧ Lab f l B w w' ∧ ∀ b, b < w.heap.size → f' b = f b := by
  subst hl
  have hgz : ∀ k, k < n → gApp g n zs k = g k := fun k hk => if_pos hk
  have hgn : ∀ k, n ≤ k → gApp g n zs k = .int .i64 (geti zs (k - n)) := fun k hk => if_neg (by omega)
  rcases Nat.eq_zero_or_pos zs.length with h0 | h0
  · have hz0 : zs = [] := List.eq_nil_of_length_eq_zero h0
    subst hz0
    refine ⟨v, w, f, ?_, hv.congr (fun k hk => hgz k (by simpa using hk)), Lab.refl _ _ _ _, fun _ _ => rfl⟩
    rcases hv with ⟨rfl, rfl⟩ | ⟨q, off, c', cs, rfl, hnc, h⟩
    · rcases A with _ | a
      · simp [Builtin.append_, run_underlying ht, sizeOf, typeInfo, hi, Builtin.lenOf, Builtin.firstCells]
      · simp [Builtin.append_, run_underlying ht, sizeOf, typeInfo, hi, Builtin.lenOf, Builtin.firstCells, loadCells, loadCellsFrom]
    · rcases A with _ | a
      · simp [Builtin.append_, run_underlying ht, sizeOf, typeInfo, hi, Builtin.lenOf, Builtin.firstCells, hnc, storeCells]
      · simp [Builtin.append_, run_underlying ht, sizeOf, typeInfo, hi, Builtin.lenOf, Builtin.firstCells, hnc, storeCells, loadCells, loadCellsFrom]
  · obtain ⟨b, o, rfl, hb, hc⟩ := ha.2 h0
    have hnews : ∀ j u, (zs.map (Value.int .i64))[j]? = some u → w.cell? ((⟨b, o, none⟩ : Addr).add j) = some u := fun j u hj => by
      have hj2 : j < zs.length := by
        have := (List.getElem?_eq_some_iff.1 hj).1
        simpa using this
      have hadd : (⟨b, o, none⟩ : Addr).add j = ⟨b, o + j, none⟩ := by unfold Addr.add; split <;> simp_all
      rw [hadd, hc j hj2]
      simpa [geti, List.getD_eq_getElem?_getD, List.getElem?_eq_getElem hj2] using hj
    have hml : maxLen = 9223372036854775807 := rfl
    have hone : ∀ u ∈ zs.map (Value.int .i64), u.oneCell' = true := by
      intro u hu
      obtain ⟨y, _, rfl⟩ := List.mem_map.1 hu
      rfl
    have hgl : ∀ {k : Nat}, k < zs.length → (zs.map (Value.int .i64))[k]? = some (.int .i64 (geti zs k)) := fun {k} hk => by
      simp [geti, List.getD_eq_getElem?_getD, List.getElem?_eq_getElem hk]
    have grow : ∀ (cap : Nat) (olds : List Value), olds.length = n → (∀ k, k < n → olds[k]? = some (g k)) → cap < n + zs.length →
        Sl e 1 (w.drew.alloc (.cells (olds.toArray ++ (zs.map (Value.int .i64)).toArray ++ Builtin.zeroCells z.cells (grownCap w (n + zs.length) cap e - (n + zs.length))) e)) (lab f w.heap.size l) l B (.slice (some ⟨w.heap.size, 0, none⟩) (n + zs.length) (grownCap w (n + zs.length) cap e)) (n + zs.length) (gApp g n zs) ∧
        Lab f l B w (w.drew.alloc (.cells (olds.toArray ++ (zs.map (Value.int .i64)).toArray ++ Builtin.zeroCells z.cells (grownCap w (n + zs.length) cap e - (n + zs.length))) e)) := fun cap olds ho hog _ => by
      have hge := grownCap_ge w (n + zs.length) cap e
      have hcm : grownCap w (n + zs.length) cap e ≤ maxLen := grownCap_le_maxLen w (n + zs.length) cap e h63
      refine ⟨.inr ⟨w.heap.size, 0, _, _, rfl, hge, by omega, lab_at _ _ _, hB, heap_alloc_new w.drew _, ?_, fun k hk => ?_⟩, ⟨rfl, rfl, rfl, by simp, fun k hk _ => Below.heap_alloc w.drew _ k hk⟩⟩
      · simp only [Array.size_append, List.size_toArray, size_zeroCells, hzs, List.length_map, ho]
        omega
      · rw [Nat.mul_one] at hk
        rw [Nat.zero_add, Array.getElem?_append_left (by simp only [Array.size_append, List.size_toArray, List.length_map, ho]; omega)]
        by_cases hkn : k < n
        · rw [Array.getElem?_append_left (by rw [List.size_toArray, ho]; exact hkn), List.getElem?_toArray, hgz k hkn]
          exact hog k hkn
        · rw [Array.getElem?_append_right (by rw [List.size_toArray, ho]; omega), List.getElem?_toArray, List.size_toArray, ho, hgn k (by omega)]
          exact hgl (by omega)
    rcases hv with ⟨rfl, rfl⟩ | ⟨q, off, c', cs, rfl, h1, h2, h3, h4, h5, h6, h7⟩
    · have hr := run_append_nil (P := P) w t ty e i z ht hi hz ⟨b, o, none⟩ zs.length c (zs.map (Value.int .i64)) (by simp [hsize]) hnews h0 (by omega) (by rw [hby]; rw [Nat.zero_add] at hbytes; omega)
      have hg2 := grow 0 [] rfl (fun k hk => by omega) (by omega)
      simp only [Nat.zero_add, Array.empty_append] at hg2 ⊢
      exact ⟨_, _, _, hr, hg2.1, hg2.2, fun b hb => lab_old hb⟩
    · rw [Nat.mul_one] at h6 h7
      by_cases hroom : n + zs.length ≤ c'
      · have hr := run_append_off (P := P) w t ty e i ht hi q off n c' cs h5 ⟨b, o, none⟩ zs.length c (zs.map (Value.int .i64)) (by simp [hsize]) hnews hone hroom (by rw [hsize]; simp; omega)
        refine ⟨_, _, f, hr, .inr ⟨q, off, c', _, rfl, hroom, h2, h3, h4, setRow_heap w q cs _ e _ h5, ?_, fun k hk => ?_⟩, ⟨rfl, rfl, rfl, by simp [World.setRow], fun k _ hn => setRow_other w q k _ (fun e => hn (by rw [e]; exact ⟨h3, h4⟩))⟩, fun _ _ => rfl⟩
        · simp only [List.size_toArray, List.length_append, List.length_take, List.length_drop, Array.length_toList, hsize, List.length_map]
          omega
        · rw [Nat.mul_one] at hk
          rw [List.getElem?_toArray, hsize, Nat.mul_one]
          by_cases hkn : k < n
          · rw [List.append_assoc, List.getElem?_append_left (by simp; omega), List.getElem?_take, if_pos (by omega), hgz k hkn, Array.getElem?_toList]
            exact h7 k hkn
          · rw [List.append_assoc, List.getElem?_append_right (by simp; omega), List.getElem?_append_left (by simp; omega), hgn k (by omega), ← hgl (by omega : k - n < zs.length)]
            congr 1
            simp
            omega
      · have holds : ∀ j u, ((List.range n).map g)[j]? = some u → w.cell? ((⟨q, off, none⟩ : Addr).add j) = some u := fun j u hj => by
          have hj2 : j < n := by
            have := (List.getElem?_eq_some_iff.1 hj).1
            simpa using this
          have hadd : (⟨q, off, none⟩ : Addr).add j = ⟨q, off + j, none⟩ := by unfold Addr.add; split <;> simp_all
          rw [hadd, h5.cell, h7 j hj2]
          simpa [hj2] using hj
        have hr := run_append_grow (P := P) w t ty e i z ht hi hz ⟨q, off, none⟩ n c' ((List.range n).map g) (by simp [hsize]) holds ⟨b, o, none⟩ zs.length c (zs.map (Value.int .i64)) (by simp [hsize]) hnews (by omega) (by omega) (by rw [hby]; exact growslice_fits (by omega) hbytes)
        have hg2 := grow c' ((List.range n).map g) (by simp) (fun k hk => by simp [hk]) (by omega)
        exact ⟨_, _, _, hr, hg2.1, hg2.2, fun b hb => lab_old hb⟩
theorem wp_append_sl {o : Oper} {a : Act} {K : Act → World → Prop} {Q : Exit → Act → World → Prop} (s x : Operand) (t : TypeId)
    (ho : o.op = .call { callee := .builtin .append, args := #[s, x], argTypes := #[t, t] })
    {f : Nat → Nat} {l B : Nat} (e : TypeId) (i : TypeInfo) (z : Value) (bytes : Nat) (ht : P.underlying t = some (.slice e)) (hi : P.info? e = some i) (hz : i.zero = some z)
    (hsize : i.size = 1) (hby : i.bytes = bytes) (hzs : z.cells.size = 1)
    (v : Value) (n : Nat) (g : Nat → Value) (hs : a.eval s = v) (hv : Sl e 1 w f l B v n g) (S : Nat → Prop) (A : Option Addr) (m c : Nat) (zs : List Int) (hx : a.eval x = .slice A m c) (hl : zs.length = m) (ha : IntsAt w S A zs)
    (h63 : n + m ≤ maxLen) (hbytes : (n + m) * bytes ≤ 140737488355328) (hB : B ≤ w.heap.size)
    (h : ∀ v' w' f', Sl e 1 w' f' l B v' (n + m) (gApp g n zs) → Lab f l B w w' → (∀ b, b < w.heap.size → f' b = f b) → K (a.put o.dst v') w') : o.wp P a w K Q := by
  obtain ⟨v', w', f', hr, h2, h3, h4⟩ := run_append_sl (P := P) w t o.type e i z bytes ht hi hz hsize hby hzs v n g hv S A m c zs hl ha h63 hbytes hB
  unfold Oper.wp execOp
  simp only [ho, resolve, invoke, builtin, Sem.run_bind, Sem.run_pure, Result.andThen_ok, List.map_toArray, List.map_cons, List.map_nil, hs, hx, hr]
  exact h v' w' f' h2 h3 h4
theorem wpList_append_sl {ops : Array Oper} {rest : List Oper} {o : Oper} {a : Act} {Q : Exit → Act → World → Prop} (hgd : o.guard = none) (s x : Operand) (t : TypeId)
    (ho : o.op = .call { callee := .builtin .append, args := #[s, x], argTypes := #[t, t] })
    {f : Nat → Nat} {l B : Nat} (e : TypeId) (i : TypeInfo) (z : Value) (bytes : Nat) (ht : P.underlying t = some (.slice e)) (hi : P.info? e = some i) (hz : i.zero = some z)
    (hsize : i.size = 1) (hby : i.bytes = bytes) (hzs : z.cells.size = 1)
    (v : Value) (n : Nat) (g : Nat → Value) (hs : a.eval s = v) (hv : Sl e 1 w f l B v n g) (S : Nat → Prop) (A : Option Addr) (m c : Nat) (zs : List Int) (hx : a.eval x = .slice A m c) (hl : zs.length = m) (ha : IntsAt w S A zs)
    (h63 : n + m ≤ maxLen) (hbytes : (n + m) * bytes ≤ 140737488355328) (hB : B ≤ w.heap.size)
    (h : ∀ v' w' f', Sl e 1 w' f' l B v' (n + m) (gApp g n zs) → Lab f l B w w' → (∀ b, b < w.heap.size → f' b = f b) → wpList P ops Q rest (a.put o.dst v') w') : wpList P ops Q (o :: rest) a w :=
  wpList_plain hgd fun _ hK => wp_append_sl w s x t ho e i z bytes ht hi hz hsize hby hzs v n g hs hv S A m c zs hx hl ha h63 hbytes hB fun v' w' f' h2 h3 h4 => hK _ _ (h v' w' f' h2 h3 h4)
end
end Go.Proofs.Ytfnphnjadknoaaa
