/- A program being bent: its two slices in block T, its rows elsewhere. -/
import Derived.Test.YtbchiiggfhdnkaaBent0
namespace Go.Proofs.Ytbchiiggfhdnkaa
open Go.RowKit

theorem blk_far {w : World} {T B : Nat} {t e : TypeId} {cs : Array Value} {size : Nat} {v : Value} {n : Nat} {xs : List Value} (hb : Blk w T t cs) (h : w.ownsRow B e size v n xs) (hne : e ≠ t) : some T ≠ v.ownBlock := fun he => by
  obtain ⟨_, _, cur, h1⟩ := own_lt h he.symm
  have h2 : w.heap[T]? = some (.cells cs t (0, 0)) := hb
  rw [h1] at h2
  cases h2
  exact hne rfl

theorem rows_cell {w : World} {B b c n : Nat} {vs : List Value} (h : w.ownsRow B 100 1 (.slice (some ⟨b, 0, none⟩) n c) n vs) {k : Nat} (hk : k < n) : w.cell? ⟨b, k, none⟩ = some (vat vs k) := by
  obtain ⟨b', c', e, _, _, hc⟩ := rows_at h (by omega)
  cases e
  exact hc k hk
theorem mem_gett {ts : List (List InsD)} {k : Nat} (hk : k < ts.length) : gett ts k ∈ ts := by
  unfold gett
  rw [List.getD_eq_getElem?_getD, List.getElem?_eq_getElem hk]
  exact List.getElem_mem hk
/-- What is wanted of a program that has been bent. -/
def BentOk (zs : List Int) (ts : List (List InsD)) : Prop := (zs.length ≤ 3 ∧ ∀ z ∈ zs, 0 ≤ z ∧ z ≤ 1) ∧ (1 ≤ ts.length ∧ ts.length ≤ 4) ∧ ∀ l ∈ ts, l.length ≤ 25 ∧ ∀ d ∈ l, Small d
theorem BentOk.set {zs : List Int} {ts : List (List InsD)} (h : BentOk zs ts) {t k f : Nat} {z : Int} (ht : t < ts.length) (hk : k < (gett ts t).length) (hz : -1 ≤ z ∧ z ≤ 30) : BentOk zs (ts.set t ((gett ts t).set k (upd (getd (gett ts t) k) f z))) := by
  refine ⟨h.1, by rw [List.length_set]; exact h.2.1, fun l hl => ?_⟩
  rcases List.mem_or_eq_of_mem_set hl with h1 | rfl
  · exact h.2.2 l h1
  · have h2 := h.2.2 _ (mem_gett ht)
    refine ⟨by rw [List.length_set]; exact h2.1, fun d hd => ?_⟩
    rcases List.mem_or_eq_of_mem_set hd with h1 | rfl
    · exact h2.2 d h1
    · refine upd_small (h2.2 _ ?_) hz
      unfold getd
      rw [List.getD_eq_getElem?_getD, List.getElem?_eq_getElem hk]
      exact List.getElem_mem hk

structure BeAt (g : Nat) (w0 : World) (T : Nat) (zs : List Int) (v : Value) (ts : List (List InsD)) (vs : List Value) (tv : Value) (w : World) : Prop where
  cur : Cur w g
  only : Only g w0 w
  blk : Blk w T 36 #[v, tv]
  own : ProgOwn w (w0.heap.size + 1) zs v ts vs tv
  lo : w0.heap.size + 1 ≤ T
  out : ∃ u u', Blk w w0.heap.size 36 #[u, u']

section
variable {g T : Nat} {w0 w w' : World} {zs : List Int} {v tv : Value} {ts : List (List InsD)} {vs : List Value}
theorem BeAt.cells (h : BeAt g w0 T zs v ts vs tv w) : PrC w T v tv := ⟨⟨h.blk.cell 0, h.blk.cell 1⟩, h.blk.frozen 0, h.blk.frozen 1⟩
theorem BeAt.call (h : BeAt g w0 T zs v ts vs tv w) (hg : g < w0.heap.size) (hc : Cur w' g) (ho : Only g w w') : BeAt g w0 T zs v ts vs tv w' :=
  ⟨hc, h.only.trans ho, h.blk.only ho (by have := h.lo; omega), h.own.keep (fun b hb hlt => ho.block b hlt (by omega)), h.lo, h.out.imp fun _ => Exists.imp fun _ k => k.only ho (by omega)⟩
theorem BeAt.drew (h : BeAt g w0 T zs v ts vs tv w) : BeAt g w0 T zs v ts vs tv w.drew := ⟨h.cur, h.only.drew, h.blk, ⟨h.own.ints, h.own.rows, h.own.thr, h.own.apart⟩, h.lo, h.out⟩
theorem BeAt.alloc (h : BeAt g w0 T zs v ts vs tv w) (o : Obj) : BeAt g w0 T zs v ts vs tv (w.alloc o) :=
  ⟨h.cur.alloc o, h.only.alloc o, h.blk.alloc o, h.own.keep (fun b _ hlt => Below.heap_alloc w o b hlt), h.lo, h.out.imp fun _ => Exists.imp fun _ k => k.alloc o⟩
/-- The row of numbers is taken off. -/
theorem BeAt.noInts (h : BeAt g w0 T zs v ts vs tv w) (hg : g < w0.heap.size) : BeAt g w0 T [] (.slice none 0 0) ts vs tv (w.setCell ⟨T, 0, none⟩ (.slice none 0 0)) := by
  have hlo := h.lo
  have hbl : ∀ b, b ≠ T → (w.setCell ⟨T, 0, none⟩ (.slice none 0 0)).heap[b]? = w.heap[b]? := fun b hb => Below.heap_setCell w ⟨T, 0, none⟩ _ b hb
  have far := fun {e : TypeId} {size : Nat} {u : Value} {n : Nat} {xs : List Value} (k : w.ownsRow (w0.heap.size + 1) e size u n xs) (hne : e ≠ 36) => own_setFar k (p := ⟨T, 0, none⟩) (fun e2 => blk_far h.blk k hne e2.symm) (.slice none 0 0)
  exact ⟨h.cur.setCell (by show g < T; omega) _, h.only.setCell (.inr (by show w0.heap.size ≤ T; omega)) _, h.blk.set_ 0 _, ⟨⟨rfl, .inl ⟨rfl, rfl⟩⟩, far h.own.rows (by decide), fun k hk => far (h.own.thr k hk) (by decide), h.own.apart⟩, h.lo, h.out.imp fun _ => Exists.imp fun _ k => k.far (by show w0.heap.size ≠ T; omega) _⟩
/-- A field of an instruction is written. -/
theorem BeAt.setIns (h : BeAt g w0 T zs v ts vs tv w) (hg : g < w0.heap.size) {t k f q c : Nat} (z : Int) (ht : t < ts.length) (hv : vat vs t = .slice (some ⟨q, 0, none⟩) (gett ts t).length c) (hk : k < (gett ts t).length) (hf : f < 6) :
    BeAt g w0 T zs v (ts.set t ((gett ts t).set k (upd (getd (gett ts t) k) f z))) vs tv (w.setCell ⟨q, k * 6 + f, none⟩ (.int .i64 z)) := by
  have hq : (vat vs t).ownBlock = some q := by rw [hv]; rfl
  have hl := own_lt (h.own.thr t ht) hq
  have hT : T ≠ q := fun e => blk_far h.blk (h.own.thr t ht) (by decide) (by rw [hq, e])
  exact ⟨h.cur.setCell (by show g < q; omega) _, h.only.setCell (.inr (by show w0.heap.size ≤ q; omega)) _, h.blk.far (by show T ≠ q; exact hT) _, h.own.setIns z ht hv hk hf, h.lo, h.out.imp fun _ => Exists.imp fun _ k => k.far (by show w0.heap.size ≠ q; omega) _⟩
theorem BeAt.grown (h : BeAt g w0 T zs v ts vs tv w) (hg : g < w0.heap.size) {w1 : World} {r : Value} (hr : ∀ b, b < w0.heap.size + 1 → some b ≠ r.ownBlock) (hrT : some T ≠ r.ownBlock) (hgr : w.grownBy w1 r.ownBlock) {zs' : List Int} {v' tv' : Value} {ts' : List (List InsD)} {vs' : List Value}
    (ho : ProgOwn w1 (w0.heap.size + 1) zs' v' ts' vs' tv') (i : Nat) (u : Value) (hi : #[v, tv].setIfInBounds i u = #[v', tv']) : PrC w1 T v tv ∧ BeAt g w0 T zs' v' ts' vs' tv' (w1.setCell ⟨T, i, none⟩ u) := by
  have hT := h.blk.lt
  have hlo := h.lo
  have hB : Blk w1 T 36 #[v, tv] := (hgr.block T hT hrT).trans h.blk
  have hB1 : Blk (w1.setCell ⟨T, i, none⟩ u) T 36 #[v', tv'] := by have := hB.set_ i u; rwa [hi] at this
  have hbel : Below (g + 1) w w1 := ⟨hgr.os, hgr.tape, hgr.output, hgr.size, fun k hk => hgr.block k (by omega) (hr k (by omega))⟩
  have far := fun {e : TypeId} {size : Nat} {u' : Value} {n : Nat} {xs : List Value} (k : w1.ownsRow (w0.heap.size + 1) e size u' n xs) (hne : e ≠ 36) => own_setFar k (p := ⟨T, i, none⟩) (fun e2 => blk_far hB k hne e2.symm) u
  refine ⟨⟨⟨hB.cell 0, hB.cell 1⟩, hB.frozen 0, hB.frozen 1⟩, ⟨(h.cur.below hbel).setCell (by show g < T; omega) _, ?_, hB1, ⟨far ho.ints (by decide), far ho.rows (by decide), fun k hk => far (ho.thr k hk) (by decide), ho.apart⟩, h.lo, h.out.imp fun _ => Exists.imp fun _ k => Blk.far ((hgr.block w0.heap.size (Blk.lt k) (hr _ (by omega))).trans k) (by show w0.heap.size ≠ T; omega) _⟩⟩
  refine Only.setCell ?_ (.inr (by show w0.heap.size ≤ T; omega)) _
  have hz := h.only.size
  exact ⟨hgr.os.trans h.only.os, hgr.tape.trans h.only.tape, hgr.output.trans h.only.output, Nat.le_trans h.only.size hgr.size, fun k hk hk2 => (hgr.block k (by omega) (hr k (by omega))).trans (h.only.block k hk hk2)⟩
/-- An empty thread more. -/
theorem BeAt.growRows (h : BeAt g w0 T zs v ts vs tv w) (hg : g < w0.heap.size) {w1 : World} {tv' : Value} {xs : List Value} (hxs : xs = vs ++ [.slice none 0 0]) (ho : w1.ownsRow (w0.heap.size + 1) 100 1 tv' (ts.length + 1) xs) (hgr : w.grownBy w1 tv.ownBlock) :
    PrC w1 T v tv ∧ BeAt g w0 T zs v (ts ++ [[]]) (vs ++ [.slice none 0 0]) tv' (w1.setCell ⟨T, 1, none⟩ tv') := by
  subst hxs
  exact h.grown hg (fun _ hb => own_far h.own.rows hb) (blk_far h.blk h.own.rows (by decide)) hgr (h.own.growRows ⟨rfl, .inl ⟨rfl, rfl⟩⟩ (fun k _ b _ e => by simp [Value.ownBlock] at e) ho hgr) 1 tv' rfl
theorem BentOk.more {zs : List Int} {ts : List (List InsD)} (h : BentOk zs ts) (hl : ts.length < 4) : BentOk zs (ts ++ [[]]) := by
  refine ⟨h.1, by simp; omega, fun l hl => ?_⟩
  rcases List.mem_append.1 hl with h1 | h1
  · exact h.2.2 l h1
  · rw [List.mem_singleton.1 h1]
    exact ⟨by simp, fun d hd => by simp at hd⟩
theorem BeAt.insCell (h : BeAt g w0 T zs v ts vs tv w) {t k f q c : Nat} (ht : t < ts.length) (hv : vat vs t = .slice (some ⟨q, 0, none⟩) (gett ts t).length c) (hk : k < (gett ts t).length) (hf : f < 6) : (∃ u, w.cell? ⟨q, k * 6 + f, none⟩ = some u) ∧ w.frozen? ⟨q, k * 6 + f, none⟩ = false := by
  obtain ⟨q', c', e, _, _, cur, hb, hl⟩ := inss_at (h.own.thr t ht) (by omega)
  rw [hv] at e
  cases e
  exact ⟨⟨_, (hb.cell _).trans (Array.getElem?_eq_getElem (show k * 6 + f < cur.size by omega))⟩, hb.frozen _⟩
theorem l1Below_be (n : Int) (hn : 1 ≤ n) (hn2 : n ≤ 100) (hg : g < w0.heap.size) (h : BeAt g w0 T zs v ts vs tv w) :
    Calls Try.prog 60 #[.pointer (some ⟨g, 0, none⟩), .int .i64 n] w fun e w' => ∃ x : Int, e = .returned (.int .i64 x) ∧ (0 ≤ x ∧ x < n) ∧ BeAt g w0 T zs v ts vs tv w' ∧ w.heap.size ≤ w'.heap.size := by
  refine (l1Below_any g n w (by omega) (by omega) h.cur).mono ?_
  rintro e w' ⟨x, rfl, hx, hc, ho⟩
  exact ⟨x, rfl, belowP hx (by omega), h.call hg hc ho, ho.size⟩
theorem l1Pick_be (A : Option Addr) (xs : List Int) (hl : 0 < xs.length) (hl2 : xs.length ≤ 256) (c : Nat) (hg : g < w0.heap.size) (hin : IntsAt w (fun b => b < w.heap.size ∧ b ≠ g) A xs) (h : BeAt g w0 T zs v ts vs tv w) :
    Calls Try.prog 131 #[.pointer (some ⟨g, 0, none⟩), .slice A xs.length c] w fun e w' => ∃ x : Int, e = .returned (.int .i64 x) ∧ x ∈ xs ∧ BeAt g w0 T zs v ts vs tv w' ∧ w.heap.size ≤ w'.heap.size := by
  refine (l1PickInt_any g A xs c w hl hl2 hin h.cur).mono ?_
  rintro e w' ⟨k, hk, rfl, hc, ho⟩
  exact ⟨_, rfl, by simp [geti, List.getD_eq_getElem?_getD, List.getElem?_eq_getElem hk], h.call hg hc ho, ho.size⟩
end
end Go.Proofs.Ytbchiiggfhdnkaa
