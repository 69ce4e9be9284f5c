/- A row of histories in the making: each of one post, going up; one more, appended. · Arguments, opened: rows of numbers, of structs of numbers, of threads. · Rows of numbers, rows of structs of one field, opened: of no function of the program. -/
import Derived.Test.YtfkaacfeikmabaaMg0
import Derived.Test.YtfkaacfeikmabaaMg7
import Derived.Test.YtfkaacfeikmabaaMg12
import Derived.Deep.Slices
import Derived.Deep.Fields
import Derived.OpenShut
import Derived.ProofKit
import Derived.Lib.SmallJoins
import Derived.Test.YtfkaacfeikmabaaRows
namespace Go.Proofs.Ytfkaacfeikmabaa
open Go.RowKit

def hval (hs : List (List PostD)) (pq : Nat → Nat) (k : Nat) : Value := .slice (some ⟨pq k, 0, none⟩) (geth hs k).length (geth hs k).length
structure HUp (w : World) (B : Nat) (v : Value) (hs : List (List PostD)) (los his pq : Nat → Nat) (qs : Nat → Nat → Nat) : Prop where
  own : w.ownsRow B 84 1 v hs.length ((List.range hs.length).map (hval hs pq))
  posts : ∀ k, k < hs.length → PostsOwn w (los k) (his k) (pq k) (qs k) (geth hs k)
  up : ∀ i j, i < j → j < hs.length → his i ≤ los j
  rng : ∀ k, k < hs.length → B ≤ los k ∧ his k ≤ w.heap.size
  sep : ∀ q, v.ownBlock = some q → ∀ k, k < hs.length → q < los k ∨ his k ≤ q
section
variable {w w' w1 : World} {B lo hi p : Nat} {v v' : Value} {hs : List (List PostD)} {los his pq : Nat → Nat} {qs : Nat → Nat → Nat} {xs : List Value} {d : PostD} {qf : Nat → Nat}
theorem HUp.nil (w : World) (B : Nat) : HUp w B (.slice none 0 0) [] (fun _ => 0) (fun _ => 0) (fun _ => 0) (fun _ _ => 0) :=
  ⟨⟨rfl, .inl ⟨rfl, rfl⟩⟩, fun k hk => by simp at hk, fun i j _ hj => by simp at hj, fun k hk => by simp at hk, fun q _ k hk => by simp at hk⟩
theorem HUp.keep (h : HUp w B v hs los his pq qs) (hz : w.heap.size ≤ w'.heap.size) (hk : ∀ k, B ≤ k → k < w.heap.size → w'.heap[k]? = w.heap[k]?) : HUp w' B v hs los his pq qs :=
  ⟨kept h.own (fun k h1 e => hk k (own_lt h.own e).1 h1), fun k hk' => (h.posts k hk').keep (fun b h1 _ h3 => hk b (Nat.le_trans (h.rng k hk').1 h1) h3), h.up, fun k hk' => ⟨(h.rng k hk').1, Nat.le_trans (h.rng k hk').2 hz⟩, h.sep⟩
theorem HUp.next (h : HUp w B v hs los his pq qs) (hb : Below w.heap.size w w') : HUp w' B v hs los his pq qs := h.keep hb.size (fun k _ hk => hb.block k hk)
theorem HUp.alloc (h : HUp w B v hs los his pq qs) (o : Obj) : HUp (w.alloc o) B v hs los his pq qs := h.next (below1 w o)
theorem HUp.drew (h : HUp w B v hs los his pq qs) : HUp w.drew B v hs los his pq qs := h.next (Below.refl _ _).drew
theorem HUp.setCell (h : HUp w B v hs los his pq qs) {a : Addr} (ha : a.block < B) (x : Value) : HUp (w.setCell a x) B v hs los his pq qs :=
  h.keep (by simp [World.setCell]) (fun k hk _ => Below.heap_setCell w a x k (by omega))
theorem geth_snoc (hs : List (List PostD)) (l : List PostD) (k : Nat) (hk : k < (hs ++ [l]).length) : (k < hs.length ∧ geth (hs ++ [l]) k = geth hs k) ∨ (k = hs.length ∧ geth (hs ++ [l]) k = l) := by
  unfold geth
  rw [List.getD_eq_getElem?_getD, List.getD_eq_getElem?_getD]
  by_cases e : k < hs.length
  · rw [List.getElem?_append_left e]; exact .inl ⟨e, rfl⟩
  · have hk' : k = hs.length := by simp at hk; omega
    subst hk'
    rw [List.getElem?_append_right (Nat.le_refl _)]
    exact .inr ⟨rfl, by simp⟩
def upF (f : Nat → Nat) (n x : Nat) (k : Nat) : Nat := if k = n then x else f k
def upQ (f : Nat → Nat → Nat) (n : Nat) (g : Nat → Nat) (k : Nat) : Nat → Nat := if k = n then g else f k
/-- The row's own block is of histories; a row of posts lies elsewhere. -/
theorem PostsOwn.grownO {l : List PostD} {n m : Nat} (h : PostsOwn w lo hi p qf l) (hg : w.grownBy w1 v.ownBlock) (hv : w.ownsRow B 84 n v m xs) : PostsOwn w1 lo hi p qf l := by
  have hq : ∀ b, v.ownBlock = some b → ∃ cs, w.heap[b]? = some (.cells cs 84 (0, 0)) := fun b hb => by
    obtain ⟨_, _, cur, h2⟩ := own_lt hv hb
    exact ⟨_, h2⟩
  obtain ⟨cs, hb, h2, h3⟩ := h.row
  refine ⟨h.len, ⟨cs, (hg.block p hb.lt (fun e => ?_)).trans hb, h2, h3⟩, fun k hk => ⟨?_, (h.views k hk).2⟩, h.up, h.rng⟩
  · obtain ⟨ds, hd⟩ := hq p e.symm
    have : w.heap[p]? = some (.cells cs 86 (0, 0)) := hb
    rw [hd] at this
    cases this
  · obtain ⟨ds, d1, d2⟩ := (h.views k hk).1
    refine ⟨ds, (hg.block _ d1.lt (fun e => ?_)).trans d1, d2⟩
    obtain ⟨es, he⟩ := hq _ e.symm
    have : w.heap[qf k]? = some (.cells ds 3 (0, 0)) := d1
    rw [he] at this
    cases this
/-- One history more, of one post. -/
theorem HUp.more (h : HUp w B v hs los his pq qs) {l : List PostD} (hp : PostsOwn w lo hi p qf l) (h1 : B ≤ lo) (h2 : ∀ k, k < hs.length → his k ≤ lo) (h3 : hi ≤ w.heap.size) (hq : ∀ q, v.ownBlock = some q → q < lo)
    (hxs : xs = (List.range hs.length).map (hval hs pq) ++ [.slice (some ⟨p, 0, none⟩) l.length l.length]) (ho : w1.ownsRow B 84 1 v' (hs.length + 1) xs) (hg : w.grownBy w1 v.ownBlock) (hw : v'.ownBlock = v.ownBlock ∨ v'.ownBlock = some w.heap.size) :
    HUp w1 B v' (hs ++ [l]) (upF los hs.length lo) (upF his hs.length hi) (upF pq hs.length p) (upQ qs hs.length qf) := by
  subst hxs
  have hl : (hs ++ [l]).length = hs.length + 1 := by simp
  have hne : ∀ k, k < hs.length → k ≠ hs.length := fun k hk => by omega
  refine ⟨?_, fun k hk => ?_, fun i j hij hj => ?_, fun k hk => ?_, fun q hq' k hk => ?_⟩
  · have e : (List.range (hs ++ [l]).length).map (hval (hs ++ [l]) (upF pq hs.length p)) = (List.range hs.length).map (hval hs pq) ++ [.slice (some ⟨p, 0, none⟩) l.length l.length] := by
      rw [hl, List.range_succ, List.map_append]
      congr 1
      · refine List.map_congr_left fun k hk => ?_
        have hk' : k < hs.length := by simpa using hk
        rcases geth_snoc hs l k (by omega) with ⟨-, e⟩ | ⟨e0, -⟩
        · unfold hval; rw [e]; unfold upF; rw [if_neg (hne k hk')]
        · omega
      · rcases geth_snoc hs l hs.length (by omega) with ⟨e0, -⟩ | ⟨-, e⟩
        · omega
        · simp only [List.map_cons, List.map_nil]
          unfold hval
          rw [e]
          simp [upF]
    rw [e, hl]
    exact ho
  · rcases geth_snoc hs l k hk with ⟨hk', e⟩ | ⟨e0, e⟩
    · rw [e]; unfold upF upQ; rw [if_neg (hne k hk'), if_neg (hne k hk'), if_neg (hne k hk'), if_neg (hne k hk')]
      exact (h.posts k hk').grownO hg h.own
    · rw [e]; subst e0; unfold upF upQ; rw [if_pos rfl, if_pos rfl, if_pos rfl, if_pos rfl]
      exact hp.grownO hg h.own
  · unfold upF
    by_cases e : j = hs.length
    · rw [if_neg (by omega), if_pos e]; exact h2 i (by omega)
    · rw [if_neg (by omega), if_neg e]; exact h.up i j hij (by omega)
  · unfold upF
    by_cases e : k = hs.length
    · rw [if_pos e, if_pos e]; exact ⟨h1, Nat.le_trans h3 hg.size⟩
    · rw [if_neg e, if_neg e]
      have := h.rng k (by omega)
      exact ⟨this.1, Nat.le_trans this.2 hg.size⟩
  · have hlo : lo ≤ hi := by have := hp.rng.1; omega
    unfold upF
    by_cases e : k = hs.length
    · rw [if_pos e, if_pos e]
      rcases hw with hw | hw
      · exact .inl (hq q (hw ▸ hq'))
      · rw [hw] at hq'; cases hq'; exact .inr h3
    · rw [if_neg e, if_neg e]
      rcases hw with hw | hw
      · exact h.sep q (hw ▸ hq') k (by omega)
      · rw [hw] at hq'; cases hq'
        exact .inr (h.rng k (by omega)).2
/-- When it is made. -/
theorem HUp.toI (h : HUp w B v hs los his pq qs) (hh : hs.length ≤ 9223372036854775807) : ∃ A c, v = .slice A hs.length c ∧ HistsI w ⟨B, w.heap.size, A, hs.length, c, hs, los, his, pq, qs⟩ := by
  rcases h.own.2 with ⟨rfl, h0⟩ | ⟨q, cap, cur, rfl, hb, hq, hcap, -, hsz, htk⟩
  · have e : hs = [] := List.length_eq_zero_iff.1 h0
    subst e
    exact ⟨none, 0, rfl, .inl rfl⟩
  · refine ⟨_, cap, rfl, .inr ⟨q, rfl, ⟨hh, ⟨cur, hq, (by show hs.length ≤ cur.size; omega), fun k (hk : k < hs.length) => ?_⟩, h.posts, h.up, ⟨⟨hb, Blk.lt hq⟩, fun k hk => ⟨h.sep q rfl k hk, h.rng k hk⟩⟩⟩⟩⟩
    have h2 : cur.toList[k]? = ((List.range hs.length).map (hval hs pq))[k]? := by rw [← htk, List.getElem?_take, if_pos (by omega)]
    rw [← Array.getElem?_toList, h2, List.getElem?_map, List.getElem?_range hk]
    rfl
end
end Go.Proofs.Ytfkaacfeikmabaa

namespace Go.Proofs.Ytfkaacfeikmabaa
open Go.RowKit Go.Joins Go.ChangeShapes Go.WideShapes Go.Deep

theorem choose_list {α : Type} (d : α) (n : Nat) (R : Nat → α → Prop) (h : ∀ i, i < n → ∃ x, R i x) : ∃ l : List α, l.length = n ∧ ∀ i, i < n → R i (l.getD i d) := by
  induction n with
  | zero => exact ⟨[], rfl, fun i hi => by omega⟩
  | succ n ih =>
    obtain ⟨l, hl, hr⟩ := ih (fun i hi => h i (by omega))
    obtain ⟨x, hx⟩ := h n (by omega)
    refine ⟨l ++ [x], by simp [hl], fun i hi => ?_⟩
    by_cases e : i < n
    · have := hr i e
      rwa [List.getD_eq_getElem?_getD, List.getElem?_append_left (by omega), ← List.getD_eq_getElem?_getD]
    · obtain rfl : i = n := by omega
      rw [List.getD_eq_getElem?_getD, List.getElem?_append_right (by omega), hl]
      simpa using hx

theorem cell_lt {w : World} {a : Addr} {v : Value} (h : w.cell? a = some v) : a.block < w.heap.size := by
  rcases Nat.lt_or_ge a.block w.heap.size with hlt | hge
  · exact hlt
  · unfold World.cell? at h; rw [Array.getElem?_eq_none hge] at h; cases h

section
variable {H : Type} {enc : TypeId × Value → H} {P : Program} {w : World} {spare : Nat → Bool} {held : Bool}

theorem trod_ints {t e : TypeId} {fuel : Nat} {v : Value} {x : DataW H × List MemPlace} (ht : P.underlying t = some (.slice e)) (he : P.underlying e = some (.int .i64)) (hc : P.cellsOf e = 1)
    (h : DataW.trod enc P w 0 spare held fuel t [v] = some x) : ∃ A zs c, v = .slice A (zs : List Int).length c ∧ zs.length ≤ c ∧ IntsAt w (Old w.heap.size) A zs := by
  rcases open_ints ht he hc h with ⟨hcs, _⟩ | ⟨a, len, cap, zs, hcs, _, hl, hm, hz, _, hcell, _⟩
  · simp only [List.cons.injEq, and_true] at hcs
    exact ⟨none, [], 0, hcs, by simp, by simp, fun h => absurd h (by simp)⟩
  · simp only [List.cons.injEq, and_true] at hcs
    have hlen : len ≤ zs.length := by rw [hz]; split <;> omega
    have htl : (zs.take len).length = len := by rw [List.length_take]; omega
    unfold maxLen at hm
    refine ⟨some a, zs.take len, cap, by rw [htl]; exact hcs, by omega, by omega, fun hp => ?_⟩
    rw [htl] at hp ⊢
    obtain ⟨b, off, rfl, hat⟩ := ints_at hcell (by omega)
    refine ⟨b, off, rfl, cell_lt (hat 0 (by omega)), fun k hk => ?_⟩
    rw [hat k (by omega)]
    unfold geti
    rw [List.getD_eq_getElem?_getD, List.getD_eq_getElem?_getD, List.getElem?_take_of_lt hk]

theorem add_plain' (b off k : Nat) : (⟨b, off, none⟩ : Addr).add k = ⟨b, off + k, none⟩ := by
  unfold Addr.add; split
  · subst_vars; rfl
  · rfl
theorem spot_none {a : Addr} {v : Value} (h : w.cell? a = some v) : ∃ b off, a = ⟨b, off, none⟩ := by
  obtain ⟨b, off, spot⟩ := a
  have := World.cell?_spot h
  simp at this
  subst this
  exact ⟨b, off, rfl⟩

theorem trod_inss {t e ti : TypeId} {f0 f1 f2 f3 f4 f5 : Field} {fuel : Nat} {v : Value} {x : DataW H × List MemPlace} (ht : P.underlying t = some (.slice e)) (he : P.underlying e = some (.struct #[f0, f1, f2, f3, f4, f5])) (hone : oneCellFields P #[f0, f1, f2, f3, f4, f5] = true) (hC : P.cellsOf e = 6)
    (hf : f0.type = ti ∧ f1.type = ti ∧ f2.type = ti ∧ f3.type = ti ∧ f4.type = ti ∧ f5.type = ti) (hti : P.underlying ti = some (.int .i64))
    (h : DataW.trod enc P w 0 spare held fuel t [v] = some x) : ∃ A l c, v = .slice A (l : List InsD).length c ∧ l.length ≤ c ∧ InssAt w (Old w.heap.size) A l := by
  rcases open_slice ht h with ⟨hcs, _⟩ | ⟨a, len, cap, m, n, D, Pl, hcs, _, hl, hm, hmm, _, hi⟩
  · simp only [List.cons.injEq, and_true] at hcs
    exact ⟨none, [], 0, hcs, by simp, by simp, fun h => absurd h (by simp)⟩
  · simp only [List.cons.injEq, and_true] at hcs
    have hlm : len ≤ m := by rw [hmm]; split <;> omega
    unfold maxLen at hm
    have each : ∀ i, i < len → ∃ d : InsD, ∀ j v, [Value.int .i64 d.o, .int .i64 d.r, .int .i64 d.a, .int .i64 d.b, .int .i64 d.x, .int .i64 d.n][j]? = some v → w.cell? ((a.add (i * 6)).add j) = some v := by
      intro i hil
      obtain ⟨cs', hc, ht'⟩ := hi i (by omega)
      rw [hC] at hc
      obtain ⟨_, hcl, hat⟩ := World.cells?_some hc
      obtain ⟨ys, n', _, _, _, hyl, hfs⟩ := DataW.trod_struct he ht'
      match cs', hcl with
      | [c0, c1, c2, c3, c4, c5], _ =>
        obtain ⟨o0, k0⟩ := hone_of hone 0 f0 rfl
        obtain ⟨o1, k1⟩ := hone_of hone 1 f1 rfl
        obtain ⟨o2, k2⟩ := hone_of hone 2 f2 rfl
        obtain ⟨o3, k3⟩ := hone_of hone 3 f3 rfl
        obtain ⟨o4, k4⟩ := hone_of hone 4 f4 rfl
        obtain ⟨o5, k5⟩ := hone_of hone 5 f5 rfl
        match ys, hyl with
        | [y0, y1, y2, y3, y4, y5], _ =>
          have g0 := hfs 0 f0 rfl; rw [o0, k0, hf.1] at g0
          have g1 := hfs 1 f1 rfl; rw [o1, k1, hf.2.1] at g1
          have g2 := hfs 2 f2 rfl; rw [o2, k2, hf.2.2.1] at g2
          have g3 := hfs 3 f3 rfl; rw [o3, k3, hf.2.2.2.1] at g3
          have g4 := hfs 4 f4 rfl; rw [o4, k4, hf.2.2.2.2.1] at g4
          have g5 := hfs 5 f5 rfl; rw [o5, k5, hf.2.2.2.2.2] at g5
          obtain ⟨a0, t0, _, _⟩ := DataW.trod_int hti (x := y0) (by simpa using g0)
          obtain ⟨a1, t1, _, _⟩ := DataW.trod_int hti (x := y1) (by simpa using g1)
          obtain ⟨a2, t2, _, _⟩ := DataW.trod_int hti (x := y2) (by simpa using g2)
          obtain ⟨a3, t3, _, _⟩ := DataW.trod_int hti (x := y3) (by simpa using g3)
          obtain ⟨a4, t4, _, _⟩ := DataW.trod_int hti (x := y4) (by simpa using g4)
          obtain ⟨a5, t5, _, _⟩ := DataW.trod_int hti (x := y5) (by simpa using g5)
          simp only [List.cons.injEq, and_true] at t0 t1 t2 t3 t4 t5
          subst t0 t1 t2 t3 t4 t5
          refine ⟨⟨a0, a1, a2, a3, a4, a5⟩, fun j v hj => ?_⟩
          have hj6 : j < 6 := by
            have := (List.getElem?_eq_some_iff.1 hj).1
            simpa using this
          rw [hat j hj6]
          exact hj
    obtain ⟨l, hll, hlr⟩ := choose_list ins0 len _ each
    refine ⟨some a, l, cap, by rw [hll]; exact hcs, by omega, by omega, fun hp => ?_⟩
    rw [hll] at hp ⊢
    obtain ⟨b, off, rfl⟩ : ∃ b off, a = ⟨b, off, none⟩ := by
      have := hlr 0 hp 0 _ rfl
      simp only [Nat.zero_mul] at this
      exact spot_none (v := _) (by simpa [Addr.add] using this)
    have h0 := hlr 0 hp 0 _ rfl
    refine ⟨b, off, rfl, ?_, fun k hk => ?_⟩
    · have := cell_lt h0
      exact (by simpa [Addr.add] using this : b < w.heap.size)
    · have q := hlr k hk
      simp only [add_plain'] at q
      exact ⟨q 0 _ rfl, q 1 _ rfl, q 2 _ rfl, q 3 _ rfl, q 4 _ rfl, q 5 _ rfl⟩

theorem trod_threads {t e ts es ti : TypeId} {g f0 f1 f2 f3 f4 f5 : Field} {fuel : Nat} {v : Value} {x : DataW H × List MemPlace} (ht : P.underlying t = some (.slice e)) (he : P.underlying e = some (.struct #[g])) (hone1 : oneCellFields P #[g] = true) (hC1 : P.cellsOf e = 1) (hg : g.type = ts)
    (hts : P.underlying ts = some (.slice es)) (hes : P.underlying es = some (.struct #[f0, f1, f2, f3, f4, f5])) (hone : oneCellFields P #[f0, f1, f2, f3, f4, f5] = true) (hC : P.cellsOf es = 6)
    (hf : f0.type = ti ∧ f1.type = ti ∧ f2.type = ti ∧ f3.type = ti ∧ f4.type = ti ∧ f5.type = ti) (hti : P.underlying ti = some (.int .i64))
    (h : DataW.trod enc P w 0 spare held fuel t [v] = some x) : ∃ A l c, v = .slice A (l : List (List InsD)).length c ∧ l.length ≤ c ∧ ThreadsAt w (Old w.heap.size) A l := by
  rcases open_slice ht h with ⟨hcs, _⟩ | ⟨a, len, cap, m, n, D, Pl, hcs, _, hl, hm, hmm, _, hi⟩
  · simp only [List.cons.injEq, and_true] at hcs
    exact ⟨none, [], 0, hcs, by simp, by simp, fun h => absurd h (by simp)⟩
  · simp only [List.cons.injEq, and_true] at hcs
    have hlm : len ≤ m := by rw [hmm]; split <;> omega
    unfold maxLen at hm
    have each : ∀ i, i < len → ∃ l : List InsD, ∃ A' c', w.cell? (a.add i) = some (.slice A' l.length c') ∧ l.length ≤ c' ∧ InssAt w (Old w.heap.size) A' l := by
      intro i hil
      obtain ⟨cs', hc, ht'⟩ := hi i (by omega)
      rw [hC1, Nat.mul_one] at hc
      obtain ⟨_, hcl, hat⟩ := World.cells?_some hc
      obtain ⟨ys, n', _, _, _, hyl, hfs⟩ := DataW.trod_struct he ht'
      match cs', hcl with
      | [c0], _ =>
        obtain ⟨o0, k0⟩ := hone_of hone1 0 g rfl
        match ys, hyl with
        | [y0], _ =>
          have g0 := hfs 0 g rfl
          rw [o0, k0, hg] at g0
          obtain ⟨A', l, c', e1, e3, e2⟩ := trod_inss hts hes hone hC hf hti (x := y0) (by simpa using g0)
          refine ⟨l, A', c', ?_, e3, e2⟩
          have := hat 0 (by omega)
          simpa [Addr.add, e1] using this
    obtain ⟨l, hll, hlr⟩ := choose_list [] len _ each
    refine ⟨some a, l, cap, by rw [hll]; exact hcs, by omega, by omega, fun hp => ?_⟩
    rw [hll] at hp ⊢
    obtain ⟨A0, c0, h0, _⟩ := hlr 0 hp
    obtain ⟨b, off, rfl⟩ : ∃ b off, a = ⟨b, off, none⟩ := spot_none (v := _) (by simpa [Addr.add] using h0)
    refine ⟨b, off, rfl, ?_, fun k hk => ?_⟩
    · have := cell_lt h0
      exact (by simpa [Addr.add] using this : b < w.heap.size)
    · obtain ⟨A', c', q1, q3, q2⟩ := hlr k hk
      rw [add_plain'] at q1
      exact ⟨A', c', q1, q3, q2⟩
end

section
variable {H : Type} {enc : TypeId × Value → H} {P : Program} {w : World} {base : Nat} {spare : Nat → Bool} {held : Bool}
theorem open_agg1 {r : Reach} {b0 : Nat} {t : TypeId} {f0 : Field} {v : Value} {d : DataW H} {p : List MemPlace} (hs : P.underlying t = some (.struct #[f0])) (hone : oneCellFields P #[f0] = true) (hC : P.cellsOf t = 1)
    (hv : Value.okWide P w r b0 t v) (h : DataW.Trod enc P w base spare held t v d p) :
    ∃ (v0 : Value) (y0 : DataW H × List MemPlace) (n : Nat), v = .agg #[v0] ∧ DataW.trod enc P w base spare held n f0.type [v0] = some y0 := by
  obtain ⟨cs, rfl, hsz⟩ := okWide_struct hs hv
  obtain ⟨l⟩ := cs
  match l, hsz.trans hC with
  | [c0], _ =>
    obtain ⟨fuel, hf⟩ := h
    obtain ⟨xs, n, _, hx, _, hlen, hg⟩ := DataW.trod_struct hs hf
    obtain ⟨o0, k0⟩ := hone_of hone 0 f0 rfl
    match xs, hlen with
    | [y0], _ =>
      exact ⟨c0, y0, n, rfl, by simpa [Value.cells, o0, k0] using hg 0 f0 rfl⟩
end

section
variable {H : Type} {enc : TypeId × Value → H} {P : Program} {w : World} {spare : Nat → Bool} {held : Bool}
/-- A row of structs of k numbers, read as its flat row of numbers. -/
theorem trod_flat {t e ti : TypeId} {fs : Array Field} {k : Nat} {fuel : Nat} {v : Value} {x : DataW H × List MemPlace} (ht : P.underlying t = some (.slice e)) (he : P.underlying e = some (.struct fs)) (hone : oneCellFields P fs = true) (hC : P.cellsOf e = k) (hk0 : 0 < k)
    (hk : fs.size = k) (hf : ∀ (i : Nat) (f : Field), fs[i]? = some f → f.type = ti) (hti : P.underlying ti = some (.int .i64))
    (h : DataW.trod enc P w 0 spare held fuel t [v] = some x) : ∃ A n c, v = .slice A n c ∧ n ≤ c ∧ n ≤ 9223372036854775807 ∧ (n * k ≤ 9223372036854775807 → ∃ zs : List Int, zs.length = n * k ∧ IntsAt w (Old w.heap.size) A zs) := by
  rcases open_slice ht h with ⟨hcs, _⟩ | ⟨a, len, cap, m, n, D, Pl, hcs, _, hl, hm, hmm, _, hi⟩
  · simp only [List.cons.injEq, and_true] at hcs
    exact ⟨none, 0, 0, hcs, Nat.le_refl _, by omega, fun _ => ⟨[], by simp, by simp, fun h => absurd h (by simp)⟩⟩
  · simp only [List.cons.injEq, and_true] at hcs
    have hlm : len ≤ m := by rw [hmm]; split <;> omega
    unfold maxLen at hm
    have each : ∀ i, i < len → ∀ j, j < k → ∃ y : Int, w.cell? ((a.add (i * k)).add j) = some (.int .i64 y) := by
      intro i hil j hj
      obtain ⟨cs', hc, ht'⟩ := hi i (by omega)
      rw [hC] at hc
      obtain ⟨_, hcl, hat⟩ := World.cells?_some hc
      obtain ⟨ys, n', _, _, _, hyl, hfs⟩ := DataW.trod_struct he ht'
      obtain ⟨f, hfj⟩ : ∃ f, fs[j]? = some f := ⟨_, Array.getElem?_eq_getElem (by omega)⟩
      obtain ⟨o0, k0⟩ := hone_of hone j f hfj
      have g0 := hfs j f hfj
      rw [k0, o0, hf j f hfj] at g0
      obtain ⟨c0, hc0⟩ : ∃ c, cs'[j]? = some c := ⟨_, List.getElem?_eq_getElem (by omega)⟩
      have e0 : (cs'.drop j).take 1 = [c0] := by
        have hj2 : j < cs'.length := by omega
        rw [List.drop_eq_getElem_cons hj2, List.take_succ_cons, List.take_zero]
        rw [List.getElem?_eq_getElem hj2] at hc0
        cases hc0
        rfl
      rw [e0] at g0
      obtain ⟨y, hy⟩ : ∃ y, ys[j]? = some y := ⟨_, List.getElem?_eq_getElem (by omega)⟩
      rw [hy] at g0
      obtain ⟨a0, t0, _, _⟩ := DataW.trod_int hti g0
      simp only [List.cons.injEq, and_true] at t0
      subst t0
      exact ⟨a0, by rw [hat j hj]; exact hc0⟩
    obtain ⟨zs, hzl, hzr⟩ := choose_list (0 : Int) (len * k) (fun q y => w.cell? ((a.add (q / k * k)).add (q % k)) = some (.int .i64 y)) (fun q hq => each (q / k) ((Nat.div_lt_iff_lt_mul hk0).2 hq) (q % k) (Nat.mod_lt _ hk0))
    refine ⟨some a, len, cap, hcs, by omega, by omega, fun hlen => ⟨zs, hzl, by rw [hzl]; exact hlen, fun hp => ?_⟩⟩
    obtain ⟨b, off, rfl⟩ : ∃ b off, a = ⟨b, off, none⟩ := by
      have h0 := hzr 0 (by omega)
      simp only [Nat.zero_div, Nat.zero_mul, Nat.zero_mod] at h0
      exact spot_none (v := .int .i64 (zs.getD 0 0)) (by simpa [Addr.add] using h0)
    have hall : ∀ q, q < zs.length → w.cell? ⟨b, off + q, none⟩ = some (.int .i64 (geti zs q)) := fun q hq => by
      have h1 := hzr q (by omega)
      rw [add_plain', add_plain', Nat.add_assoc, Nat.div_add_mod'] at h1
      exact h1
    exact ⟨b, off, rfl, cell_lt (hall 0 hp), hall⟩
end
end Go.Proofs.Ytfkaacfeikmabaa

namespace Go.Proofs.Ytfkaacfeikmabaa
open Go.RowKit Go.Joins Go.ChangeShapes Go.WideShapes Go.Deep

section
variable {H : Type} {enc : TypeId × Value → H} {P : Program} {w : World} {spare : Nat → Bool} {held : Bool}
theorem trod_ints_wf {t e : TypeId} {fuel : Nat} {v : Value} {x : DataW H × List MemPlace} (ht : P.underlying t = some (.slice e)) (he : P.underlying e = some (.int .i64)) (hc : P.cellsOf e = 1)
    (h : DataW.trod enc P w 0 spare held fuel t [v] = some x) : ∃ A zs c, v = .slice A (zs : List Int).length c ∧ zs.length ≤ c ∧ IntsAt w (Old w.heap.size) A zs ∧ IntsWf zs := by
  rcases open_ints ht he hc h with ⟨hcs, _⟩ | ⟨a, len, cap, zs, hcs, _, hl, hm, hz, _, hcell, hwf⟩
  · simp only [List.cons.injEq, and_true] at hcs
    exact ⟨none, [], 0, hcs, by simp, ⟨by simp, fun h => absurd h (by simp)⟩, fun k hk => absurd hk (by simp)⟩
  · simp only [List.cons.injEq, and_true] at hcs
    have hlen : len ≤ zs.length := by rw [hz]; split <;> omega
    have htl : (zs.take len).length = len := by rw [List.length_take]; omega
    unfold maxLen at hm
    refine ⟨some a, zs.take len, cap, by rw [htl]; exact hcs, by omega, ⟨by omega, fun hp => ?_⟩, fun k hk => ?_⟩
    · rw [htl] at hp ⊢
      obtain ⟨b, off, rfl, hat⟩ := ints_at hcell (by omega)
      refine ⟨b, off, rfl, cell_lt (hat 0 (by omega)), fun k hk => ?_⟩
      rw [hat k (by omega)]
      unfold geti
      rw [List.getD_eq_getElem?_getD, List.getD_eq_getElem?_getD, List.getElem?_take_of_lt hk]
    · unfold geti
      rw [List.getD_eq_getElem?_getD, List.getElem?_eq_getElem hk]
      exact hwf _ (List.mem_of_mem_take (List.getElem_mem hk))
/-- A row of structs of one field, each read by 'inner'. -/
theorem trod_heads {α : Type} (d0 : α) (R : α → Value → Prop) {t e ts : TypeId} {g : Field} {fuel : Nat} {v : Value} {x : DataW H × List MemPlace} (ht : P.underlying t = some (.slice e)) (he : P.underlying e = some (.struct #[g])) (hone1 : oneCellFields P #[g] = true) (hC1 : P.cellsOf e = 1) (hg : g.type = ts)
    (inner : ∀ (n : Nat) (c0 : Value) (y0 : DataW H × List MemPlace), DataW.trod enc P w 0 spare held n ts [c0] = some y0 → ∃ a, R a c0)
    (h : DataW.trod enc P w 0 spare held fuel t [v] = some x) : ∃ A l c, v = .slice A (l : List α).length c ∧ l.length ≤ c ∧ l.length ≤ 9223372036854775807 ∧ (0 < l.length → ∃ b off, A = some ⟨b, off, none⟩ ∧ b < w.heap.size ∧ ∀ k, k < l.length → ∃ c0, w.cell? ⟨b, off + k, none⟩ = some c0 ∧ R (l.getD k d0) c0) := by
  rcases open_slice ht h with ⟨hcs, _⟩ | ⟨a, len, cap, m, n, D, Pl, hcs, _, hl, hm, hmm, _, hi⟩
  · simp only [List.cons.injEq, and_true] at hcs
    exact ⟨none, [], 0, hcs, by simp, by simp, fun h => absurd h (by simp)⟩
  · simp only [List.cons.injEq, and_true] at hcs
    have hlm : len ≤ m := by rw [hmm]; split <;> omega
    unfold maxLen at hm
    have each : ∀ i, i < len → ∃ r : α, ∃ c0, w.cell? (a.add i) = some c0 ∧ R r c0 := by
      intro i hil
      obtain ⟨cs', hc, ht'⟩ := hi i (by omega)
      rw [hC1, Nat.mul_one] at hc
      obtain ⟨_, hcl, hat⟩ := World.cells?_some hc
      obtain ⟨ys, n', _, _, _, hyl, hfs⟩ := DataW.trod_struct he ht'
      match cs', hcl with
      | [c0], _ =>
        obtain ⟨o0, k0⟩ := hone_of hone1 0 g rfl
        match ys, hyl with
        | [y0], _ =>
          have g0 := hfs 0 g rfl
          rw [o0, k0, hg] at g0
          obtain ⟨r, hr⟩ := inner _ c0 y0 (by simpa using g0)
          refine ⟨r, c0, ?_, hr⟩
          have := hat 0 (by omega)
          simpa [Addr.add] using this
    obtain ⟨l, hll, hlr⟩ := choose_list d0 len _ each
    refine ⟨some a, l, cap, by rw [hll]; exact hcs, by omega, by omega, fun hp => ?_⟩
    rw [hll] at hp ⊢
    obtain ⟨c0, h0, _⟩ := hlr 0 hp
    obtain ⟨b, off, rfl⟩ : ∃ b off, a = ⟨b, off, none⟩ := spot_none (v := _) (by simpa [Addr.add] using h0)
    refine ⟨b, off, rfl, ?_, fun k hk => ?_⟩
    · have := cell_lt h0
      exact (by simpa [Addr.add] using this : b < w.heap.size)
    · obtain ⟨c1, q1, q2⟩ := hlr k hk
      rw [add_plain'] at q1
      exact ⟨c1, q1, q2⟩
end
end Go.Proofs.Ytfkaacfeikmabaa
