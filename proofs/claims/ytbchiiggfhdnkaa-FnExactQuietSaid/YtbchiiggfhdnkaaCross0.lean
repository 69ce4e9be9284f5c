/- A program in the making with a thread beside it, without a cursor. -/
import Derived.Test.YtbchiiggfhdnkaaBe
namespace Go.Proofs.Ytbchiiggfhdnkaa
open Go.RowKit

structure CrAt (w0 : World) (T : Nat) (zs : List Int) (v : Value) (ts : List (List InsD)) (vs : List Value) (tv : Value) (w : World) : Prop where
  below : Below w0.heap.size w0 w
  blk : Blk w T 36 #[v, tv]
  own : ProgOwn w (w0.heap.size + 1) zs v ts vs tv
  lo : w0.heap.size + 1 ≤ T
  out : ∃ u u', Blk w w0.heap.size 36 #[u, u']

/-- .. and a thread's row. -/
structure LAt (w0 : World) (T : Nat) (zs : List Int) (v : Value) (ts : List (List InsD)) (vs : List Value) (tv : Value) (l : List InsD) (lv : Value) (w : World) : Prop where
  cr : CrAt w0 T zs v ts vs tv w
  row : w.ownsRow (w0.heap.size + 1) 24 6 lv l.length (flat l)
  ap : ∀ k, k < ts.length → Apart (vat vs k) lv

section
variable {T : Nat} {w0 w w1 : World} {zs : List Int} {v tv lv : Value} {ts : List (List InsD)} {vs : List Value} {l : List InsD}
theorem CrAt.cells (h : CrAt w0 T zs v ts vs tv w) : PrC w T v tv := ⟨⟨h.blk.cell 0, h.blk.cell 1⟩, h.blk.frozen 0, h.blk.frozen 1⟩
theorem CrAt.alloc (h : CrAt w0 T zs v ts vs tv w) (o : Obj) : CrAt w0 T zs v ts vs tv (w.alloc o) :=
  ⟨h.below.alloc h.below.size o, h.blk.alloc o, h.own.keep (fun b _ hlt => Below.heap_alloc w o b hlt), h.lo, h.out.imp fun _ => Exists.imp fun _ k => k.alloc o⟩
theorem LAt.alloc (h : LAt w0 T zs v ts vs tv l lv w) (o : Obj) : LAt w0 T zs v ts vs tv l lv (w.alloc o) :=
  ⟨h.cr.alloc o, own_keep h.row (fun b _ hlt => Below.heap_alloc w o b hlt), h.ap⟩
/-- A row that a literal has made. -/
theorem own_lit (w : World) (B : Nat) (e : TypeId) (size n : Nat) (cs : Array Value) (hB : B ≤ w.heap.size) (hn : n ≤ 1000) (hs : cs.size = n * size) : (w.alloc (.cells cs e)).ownsRow B e size (.slice (some ⟨w.heap.size, 0, none⟩) n n) n cs.toList :=
  ⟨by simpa using hs, .inr ⟨_, n, cs, rfl, hB, heap_alloc_new w _, Nat.le_refl _, by have : maxLen = 9223372036854775807 := rfl; omega, hs, List.take_of_length_le (by simp [hs])⟩⟩
theorem LAt.start (h : CrAt w0 T zs v ts vs tv w) {cs : Array Value} (hn : l.length ≤ 1000) (hcs : cs.toList = flat l) : LAt w0 T zs v ts vs tv l (.slice (some ⟨w.heap.size, 0, none⟩) l.length l.length) (w.alloc (.cells cs 24)) := by
  have hs : cs.size = l.length * 6 := by rw [← flat_len, ← hcs]; simp
  have hz := h.below.size
  have hb := h.blk.lt
  have hlo := h.lo
  have hr := own_lit w w.heap.size 24 6 l.length cs (Nat.le_refl _) hn hs
  rw [hcs] at hr
  exact ⟨h.alloc _, own_base hr (by omega), fun k hk => apart_new (h.own.thr k hk) hr (Nat.le_refl _)⟩
theorem CrAt.drew (h : CrAt w0 T zs v ts vs tv w) : CrAt w0 T zs v ts vs tv w.drew := ⟨h.below.drew, h.blk, ⟨h.own.ints, h.own.rows, h.own.thr, h.own.apart⟩, h.lo, h.out⟩
theorem LAt.drew (h : LAt w0 T zs v ts vs tv l lv w) : LAt w0 T zs v ts vs tv l lv w.drew := ⟨h.cr.drew, h.row, h.ap⟩
/-- A row with room behind it. -/
theorem LAt.startCap (h : CrAt w0 T zs v ts vs tv w) {cs : Array Value} {K : Nat} (hK : l.length ≤ K) (hm : K ≤ maxLen) (hs : cs.size = K * 6) (ht : cs.toList.take (l.length * 6) = flat l) : LAt w0 T zs v ts vs tv l (.slice (some ⟨w.heap.size, 0, none⟩) l.length K) (w.alloc (.cells cs 24)) := by
  have hz := h.below.size
  have hb := h.blk.lt
  have hlo := h.lo
  have hr : (w.alloc (.cells cs 24)).ownsRow w.heap.size 24 6 (.slice (some ⟨w.heap.size, 0, none⟩) l.length K) l.length (flat l) := ⟨flat_len l, .inr ⟨_, K, cs, rfl, Nat.le_refl _, heap_alloc_new w _, hK, hm, hs, ht⟩⟩
  exact ⟨h.alloc _, own_base hr (by omega), fun k hk => apart_new (h.own.thr k hk) hr (Nat.le_refl _)⟩
theorem LAt.growL {gg n cap : Nat} {d : InsD} {xs : List Value} (h : LAt w0 T zs v ts vs tv l lv w) (hxs : xs = flat l ++ insVals d) (ho : w1.ownsRow (w0.heap.size + 1) 24 6 (.slice (some ⟨gg, 0, none⟩) n cap) (l.length + 1) xs) (hgr : w.grownBy w1 lv.ownBlock) (hat : lv.ownBlock = some gg ∨ gg = w.heap.size) :
    LAt w0 T zs v ts vs tv (l ++ [d]) (.slice (some ⟨gg, 0, none⟩) n cap) w1 := by
  subst hxs
  have hfl : flat (l ++ [d]) = flat l ++ insVals d := by simp [flat]
  have hlo := h.cr.lo
  have hT := h.cr.blk.lt
  have hr : ∀ k, k < w0.heap.size + 1 → some k ≠ lv.ownBlock := fun _ hk => own_far h.row hk
  have hB : Blk w1 T 36 #[v, tv] := (hgr.block T hT (blk_far h.cr.blk h.row (by decide))).trans h.cr.blk
  refine ⟨⟨?_, hB, ⟨own_grown h.cr.own.ints hgr (apart_type h.cr.own.ints h.row (by decide)), own_grown h.cr.own.rows hgr (apart_type h.cr.own.rows h.row (by decide)), fun k hk => own_grown (h.cr.own.thr k hk) hgr (h.ap k hk), h.cr.own.apart⟩, hlo, h.cr.out.imp fun _ => Exists.imp fun _ k => (hgr.block w0.heap.size (Blk.lt k) (hr _ (by omega))).trans k⟩, by rw [hfl, List.length_append]; exact ho, fun k hk x hx hy => ?_⟩
  · have hz := h.cr.below.size
    exact ⟨hgr.os.trans h.cr.below.os, hgr.tape.trans h.cr.below.tape, hgr.output.trans h.cr.below.output, Nat.le_trans h.cr.below.size hgr.size, fun k hk => (hgr.block k (by omega) (hr k (by omega))).trans (h.cr.below.block k hk)⟩
  · have e : gg = x := by simpa [Value.ownBlock] using hy
    subst e
    rcases hat with h1 | h1
    · exact h.ap k hk gg hx h1
    · have := (own_lt (h.cr.own.thr k hk) hx).2.1
      omega
theorem LAt.growRows {tv' : Value} (h : LAt w0 T zs v ts vs tv l lv w) {xs : List Value} (hxs : xs = vs ++ [lv]) (ho : w1.ownsRow (w0.heap.size + 1) 100 1 tv' (ts.length + 1) xs) (hgr : w.grownBy w1 tv.ownBlock) :
    PrC w1 T v tv ∧ CrAt w0 T zs v (ts ++ [l]) (vs ++ [lv]) tv' (w1.setCell ⟨T, 1, none⟩ tv') := by
  subst hxs
  have hlo := h.cr.lo
  have hT := h.cr.blk.lt
  have hr : ∀ k, k < w0.heap.size + 1 → some k ≠ tv.ownBlock := fun _ hk => own_far h.cr.own.rows hk
  have hB : Blk w1 T 36 #[v, tv] := (hgr.block T hT (blk_far h.cr.blk h.cr.own.rows (by decide))).trans h.cr.blk
  have hB1 : Blk (w1.setCell ⟨T, 1, none⟩ tv') T 36 #[v, tv'] := by have := hB.set_ 1 tv'; simpa using this
  have ho2 := h.cr.own.growRows h.row h.ap ho hgr
  have far := fun {e : TypeId} {size : Nat} {u' : Value} {n : Nat} {xs : List Value} (k : w1.ownsRow (w0.heap.size + 1) e size u' n xs) (hne : e ≠ 36) => own_setFar k (p := ⟨T, 1, none⟩) (fun e2 => blk_far hB k hne e2.symm) tv'
  refine ⟨⟨⟨hB.cell 0, hB.cell 1⟩, hB.frozen 0, hB.frozen 1⟩, ⟨?_, hB1, ⟨far ho2.ints (by decide), far ho2.rows (by decide), fun k hk => far (ho2.thr k hk) (by decide), ho2.apart⟩, hlo, h.cr.out.imp fun _ => Exists.imp fun _ k => Blk.far ((hgr.block w0.heap.size (Blk.lt k) (hr _ (by omega))).trans k) (by show w0.heap.size ≠ T; omega) _⟩⟩
  have hz := h.cr.below.size
  refine Below.setCell ?_ (by show w0.heap.size ≤ T; omega) _
  exact ⟨hgr.os.trans h.cr.below.os, hgr.tape.trans h.cr.below.tape, hgr.output.trans h.cr.below.output, Nat.le_trans h.cr.below.size hgr.size, fun k hk => (hgr.block k (by omega) (hr k (by omega))).trans (h.cr.below.block k hk)⟩
end
end Go.Proofs.Ytbchiiggfhdnkaa
