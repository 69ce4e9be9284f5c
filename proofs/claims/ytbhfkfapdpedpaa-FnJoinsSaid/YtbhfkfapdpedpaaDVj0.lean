/- Rows of their own beside each other: of histories, and two of numbers; for DrawViewJoin. -/
import Derived.Test.YtbhfkfapdpedpaaL4d
import Derived.Test.YtbhfkfapdpedpaaBeG
namespace Go.Proofs.Ytbhfkfapdpedpaa
open Go.RowKit

section
variable {w w' : World} {B B' s s' n n' : Nat} {t t' : TypeId} {v v' : Value} {xs xs' : List Value}
theorem own_apart (h : w.ownsRow B t s v n xs) (hg : w.grownBy w' v'.ownBlock) (hne : ∀ q, v.ownBlock = some q → v'.ownBlock ≠ some q) : w'.ownsRow B t s v n xs :=
  kept h (fun k hk e => hg.block k hk (fun e2 => hne k e e2.symm))
theorem own_type (h : w.ownsRow B t s v n xs) (h' : w.ownsRow B' t' s' v' n' xs') (hne : t ≠ t') : ∀ q, v.ownBlock = some q → v'.ownBlock ≠ some q := by
  intro q e e'
  rcases h.2 with ⟨rfl, _⟩ | ⟨q1, _, _, rfl, _, h1, _⟩
  · simp [Value.ownBlock] at e
  · rcases h'.2 with ⟨rfl, _⟩ | ⟨q2, _, _, rfl, _, h2, _⟩
    · simp [Value.ownBlock] at e'
    · simp only [Value.ownBlock, Option.some.injEq] at e e'
      subst e e'
      rw [h1] at h2
      simp only [Option.some.injEq, Obj.cells.injEq] at h2
      exact hne h2.2.1
theorem own_only (h : w.ownsRow B t s v n xs) {g : Nat} (ho : Only g w w') (hg : g < B) : w'.ownsRow B t s v n xs :=
  kept h (fun k hk e => ho.block k hk (by have := (own_at h e).1; omega))
theorem own_alloc (h : w.ownsRow B t s v n xs) (o : Obj) : (w.alloc o).ownsRow B t s v n xs := kept h (fun k hk _ => Below.heap_alloc w o k hk)
theorem own_setT (h : w.ownsRow B t s v n xs) (p : Addr) (u : Value) (hp : p.block < B) : (w.setCell p u).ownsRow B t s v n xs :=
  kept h (fun k _ e => Below.heap_setCell w p u k (by have := (own_at h e).1; omega))
theorem own_intsT {zs : List Int} {A : Option Addr} {m c : Nat} (h : w.ownsRow B t 1 (.slice A m c) n (zs.map (Value.int .i64))) : IntsAt w (New B w.heap.size) A zs := by
  have hl : zs.length = n := by simpa using h.1
  rcases h.2 with ⟨e, h0⟩ | ⟨q, cap, cur, e, hq, hh, hcap, hmax, hcs, ht⟩
  · exact ⟨by rw [hl, h0]; decide, fun h => by omega⟩
  · cases e
    have hmx : maxLen = 9223372036854775807 := rfl
    have hlt : q < w.heap.size := by
      rcases Nat.lt_or_ge q w.heap.size with hlt | hge
      · exact hlt
      · rw [Array.getElem?_eq_none hge] at hh; cases hh
    refine ⟨by omega, fun _ => ⟨q, 0, rfl, ⟨hq, hlt⟩, fun k hk => ?_⟩⟩
    rw [cell_of_row w q _ cur _ (0, 0) hh, Nat.zero_add]
    have h1 : (cur.toList.take (n * 1))[k]? = (zs.map (Value.int .i64))[k]? := by rw [ht]
    rw [List.getElem?_take, if_pos (by omega), Array.getElem?_toList] at h1
    rw [h1, List.getElem?_map]
    unfold geti
    rw [List.getD_eq_getElem?_getD, List.getElem?_eq_getElem hk]
    rfl
end

/-- A row of histories of its own, each history's posts in a row of their own. -/
def HRow (w : World) (B : Nat) (hs : List (List PostD)) (v : Value) : Prop := ∃ hv : List Value, w.ownsRow B 45 1 v hs.length hv ∧ ∀ k, k < hs.length → ∃ A c, hv[k]? = some (.slice A (geth hs k).length c) ∧ (geth hs k).length ≤ c ∧ w.ownsRow B 47 4 (.slice A (geth hs k).length c) (geth hs k).length (flatP (geth hs k))
def HSmall (hs : List (List PostD)) : Prop := ∀ k, k < hs.length → (1 ≤ (geth hs k).length ∧ (geth hs k).length ≤ 5) ∧ ∀ d ∈ geth hs k, SmallP d
section
variable {w w' : World} {B n : Nat} {hs : List (List PostD)} {v : Value}
theorem HRow.keep (h : HRow w B hs v) (hk : ∀ (t : TypeId) (s : Nat) (u : Value) (m : Nat) (xs : List Value), (t = 45 ∨ t = 47) → w.ownsRow B t s u m xs → w'.ownsRow B t s u m xs) : HRow w' B hs v := by
  obtain ⟨hv, h1, h2⟩ := h
  refine ⟨hv, hk _ _ _ _ _ (.inl rfl) h1, fun k hk' => ?_⟩
  obtain ⟨A, c, h3, h4, h5⟩ := h2 k hk'
  exact ⟨A, c, h3, h4, hk _ _ _ _ _ (.inr rfl) h5⟩
theorem HRow.only (h : HRow w B hs v) {g : Nat} (ho : Only g w w') (hg : g < B) : HRow w' B hs v := h.keep (fun _ _ _ _ _ _ h => own_only h ho hg)
theorem HRow.alloc (h : HRow w B hs v) (o : Obj) : HRow (w.alloc o) B hs v := h.keep (fun _ _ _ _ _ _ h => own_alloc h o)
theorem HRow.grown (h : HRow w B hs v) {v' : Value} {B' m : Nat} {ys : List Value} (hg : w.grownBy w' v'.ownBlock) (h' : w.ownsRow B' 3 1 v' m ys) : HRow w' B hs v :=
  h.keep (fun t _ _ _ _ ht k => own_apart k hg (own_type k h' (by rcases ht with rfl | rfl <;> decide)))
/-- One history more. -/
theorem HRow.more {hv : List Value} {v' : Value} {A : Option Addr} {c : Nat} {l : List PostD} (h0 : w.ownsRow B 45 1 v hs.length hv) (hp : ∀ k, k < hs.length → ∃ A c, hv[k]? = some (.slice A (geth hs k).length c) ∧ (geth hs k).length ≤ c ∧ w.ownsRow B 47 4 (.slice A (geth hs k).length c) (geth hs k).length (flatP (geth hs k)))
    (hl : w.ownsRow B 47 4 (.slice A l.length c) l.length (flatP l)) (hc : l.length ≤ c) (hg : w.grownBy w' v.ownBlock) (ho : w'.ownsRow B 45 1 v' (hs.length + 1) (hv ++ [.slice A l.length c])) : HRow w' B (hs ++ [l]) v' := by
  have hlen : hv.length = hs.length := by simpa using h0.1
  refine ⟨hv ++ [.slice A l.length c], by simpa using ho, fun k hk => ?_⟩
  have hd : 47 ≠ 45 := by decide
  rcases Nat.lt_or_ge k hs.length with hlt | hge
  · have e : geth (hs ++ [l]) k = geth hs k := by unfold geth; rw [List.getD_eq_getElem?_getD, List.getD_eq_getElem?_getD, List.getElem?_append_left hlt]
    obtain ⟨A1, c1, h3, h4, h5⟩ := hp k hlt
    rw [e]
    exact ⟨A1, c1, by rw [List.getElem?_append_left (by omega)]; exact h3, h4, own_apart h5 hg (own_type h5 h0 hd)⟩
  · have hk2 : k = hs.length := by simp at hk; omega
    have e : geth (hs ++ [l]) k = l := by subst hk2; unfold geth; simp
    rw [e]
    exact ⟨A, c, by rw [List.getElem?_append_right (by omega), hk2, hlen]; simp, hc, own_apart hl hg (own_type hl h0 hd)⟩
theorem HSmall.more (h : HSmall hs) {l : List PostD} (hl : 1 ≤ l.length ∧ l.length ≤ 5) (hs' : ∀ d ∈ l, SmallP d) : HSmall (hs ++ [l]) := by
  intro k hk
  rcases Nat.lt_or_ge k hs.length with hlt | hge
  · have e : geth (hs ++ [l]) k = geth hs k := by unfold geth; rw [List.getD_eq_getElem?_getD, List.getD_eq_getElem?_getD, List.getElem?_append_left hlt]
    rw [e]; exact h k hlt
  · have hk2 : k = hs.length := by simp at hk; omega
    have e : geth (hs ++ [l]) k = l := by subst hk2; unfold geth; simp
    rw [e]; exact ⟨hl, hs'⟩
theorem HRow.at_ (h : HRow w B hs v) (hsm : HSmall hs) (hn : hs.length ≤ 9223372036854775807) : ∃ C c, v = .slice C hs.length c ∧ HistsAt w (New B w.heap.size) C hs := by
  obtain ⟨hv, h1, h2⟩ := h
  rcases h1.2 with ⟨rfl, h0⟩ | ⟨q, cap, cur, rfl, hq, hh, hcap, hmax, hcs, ht⟩
  · exact ⟨none, 0, by rw [h0], hn, fun h => by omega⟩
  · have hlt : q < w.heap.size := by
      rcases Nat.lt_or_ge q w.heap.size with hlt | hge
      · exact hlt
      · rw [Array.getElem?_eq_none hge] at hh; cases hh
    refine ⟨_, _, rfl, hn, fun _ => ⟨q, 0, rfl, ⟨hq, hlt⟩, fun k hk => ?_⟩⟩
    obtain ⟨A, c, h3, h4, h5⟩ := h2 k hk
    obtain ⟨A', c', e, -, hp⟩ := own_posts h5 (hsm k hk).2
    cases e
    refine ⟨A, c, ?_, h4, hp⟩
    rw [cell_of_row w q _ cur _ (0, 0) hh, Nat.zero_add]
    have h6 : (cur.toList.take (hs.length * 1))[k]? = hv[k]? := by rw [ht]
    rw [List.getElem?_take, if_pos (by omega), Array.getElem?_toList] at h6
    rw [h6, h3]
end

/-- What the loop of DrawViewJoin holds. -/
structure DvAt (g B : Nat) (w0 : World) (hs : List (List PostD)) (az bz : List Int) (vh va vb : Value) (w : World) : Prop where
  cur : Cur w g
  gB : g < B
  hB : w0.heap.size = B
  only : Only g w0 w
  hrow : HRow w B hs vh
  arow : w.ownsRow B 3 1 va az.length (az.map (Value.int .i64))
  brow : w.ownsRow B 3 1 vb bz.length (bz.map (Value.int .i64))
  apart : ∀ q, va.ownBlock = some q → vb.ownBlock ≠ some q
section
variable {w w' w0 : World} {g B : Nat} {hs : List (List PostD)} {az bz : List Int} {vh va vb : Value}
theorem DvAt.drew (h : DvAt g B w0 hs az bz vh va vb w) : DvAt g B w0 hs az bz vh va vb w.drew := ⟨h.cur, h.gB, h.hB, h.only.drew, h.hrow, h.arow, h.brow, h.apart⟩
theorem DvAt.call (h : DvAt g B w0 hs az bz vh va vb w) (hc : Cur w' g) (ho : Only g w w') : DvAt g B w0 hs az bz vh va vb w' :=
  ⟨hc, h.gB, h.hB, h.only.trans ho, h.hrow.only ho h.gB, own_only h.arow ho h.gB, own_only h.brow ho h.gB, h.apart⟩
theorem DvAt.alloc (h : DvAt g B w0 hs az bz vh va vb w) (o : Obj) : DvAt g B w0 hs az bz vh va vb (w.alloc o) :=
  ⟨h.cur.alloc o, h.gB, h.hB, h.only.alloc o, h.hrow.alloc o, own_alloc h.arow o, own_alloc h.brow o, h.apart⟩
theorem blk_type {T : Nat} {t t' : TypeId} {cs : Array Value} {s' n' B' : Nat} {v' : Value} {xs' : List Value} (h : Blk w T t cs) (h' : w.ownsRow B' t' s' v' n' xs') (hne : t ≠ t') : some T ≠ v'.ownBlock := by
  intro e
  rcases h'.2 with ⟨rfl, _⟩ | ⟨q2, _, _, rfl, _, h2, _⟩
  · simp [Value.ownBlock] at e
  · simp only [Value.ownBlock, Option.some.injEq] at e
    subst e
    have h1 : w.heap[T]? = some (.cells cs t (0, 0)) := h
    rw [h1] at h2
    simp only [Option.some.injEq, Obj.cells.injEq] at h2
    exact hne h2.2.1
theorem DvAt.grown0 (h : DvAt g B w0 hs az bz vh va vb w) {t : TypeId} {s n : Nat} {v : Value} {xs : List Value} (ho : w.ownsRow B t s v n xs) (hg : w.grownBy w' v.ownBlock) : Cur w' g ∧ Only g w0 w' := by
  have hfar : ∀ k, k < B → some k ≠ v.ownBlock := fun k hk e => by have := (own_at ho e.symm).1; omega
  have hgB := h.gB
  have hB := h.hB
  have hz := h.only.size
  refine ⟨h.cur.below ⟨hg.os, hg.tape, hg.output, hg.size, fun k hk => hg.block k (by omega) (hfar k (by omega))⟩, ⟨hg.os.trans h.only.os, hg.tape.trans h.only.tape, hg.output.trans h.only.output, Nat.le_trans h.only.size hg.size, fun k hk hk2 => (hg.block k (by omega) (hfar k (by omega))).trans (h.only.block k hk hk2)⟩⟩
theorem DvAt.growA (h : DvAt g B w0 hs az bz vh va vb w) {gg m cap : Nat} {z : Int} {n : Nat} (ho : w'.ownsRow B 3 1 (.slice (some ⟨gg, 0, none⟩) m cap) n (az.map (Value.int .i64) ++ [.int .i64 z])) (hg : w.grownBy w' va.ownBlock) (hat : va.ownBlock = some gg ∨ gg = w.heap.size) : DvAt g B w0 hs (az ++ [z]) bz vh (.slice (some ⟨gg, 0, none⟩) m cap) vb w' := by
  obtain ⟨h1, h2⟩ := h.grown0 h.arow hg
  have hn : n = (az ++ [z]).length := by have := ho.1; simp at this; simp; omega
  subst hn
  refine ⟨h1, h.gB, h.hB, h2, h.hrow.grown hg h.arow, by simpa using ho, own_apart h.brow hg (fun q e e' => h.apart q e' e), fun q e e' => ?_⟩
  simp only [Value.ownBlock, Option.some.injEq] at e
  subst e
  rcases hat with hat | hat
  · exact h.apart _ hat e'
  · have := (own_at h.brow e').2; omega
theorem DvAt.growB (h : DvAt g B w0 hs az bz vh va vb w) {gg m cap : Nat} {z : Int} {n : Nat} (ho : w'.ownsRow B 3 1 (.slice (some ⟨gg, 0, none⟩) m cap) n (bz.map (Value.int .i64) ++ [.int .i64 z])) (hg : w.grownBy w' vb.ownBlock) (hat : vb.ownBlock = some gg ∨ gg = w.heap.size) : DvAt g B w0 hs az (bz ++ [z]) vh va (.slice (some ⟨gg, 0, none⟩) m cap) w' := by
  obtain ⟨h1, h2⟩ := h.grown0 h.brow hg
  have hn : n = (bz ++ [z]).length := by have := ho.1; simp at this; simp; omega
  subst hn
  refine ⟨h1, h.gB, h.hB, h2, h.hrow.grown hg h.brow, own_apart h.arow hg h.apart, by simpa using ho, fun q e e' => ?_⟩
  simp only [Value.ownBlock, Option.some.injEq] at e'
  subst e'
  rcases hat with hat | hat
  · exact h.apart _ e hat
  · have := (own_at h.arow e).2; omega

theorem own_setIntV {q c n : Nat} {zs : List Int} (h : w.ownsRow B 3 1 (.slice (some ⟨q, 0, none⟩) n c) n (zs.map (Value.int .i64))) (k : Nat) (z : Int) :
    (w.setCell ⟨q, k, none⟩ (.int .i64 z)).ownsRow B 3 1 (.slice (some ⟨q, 0, none⟩) n c) n ((zs.set k z).map (Value.int .i64)) := by
  rcases h.2 with ⟨hv, _⟩ | ⟨q', cap, cur, hv, hb, hh, hcap, hmax, hcs, ht⟩
  · cases hv
  · cases hv
    refine ⟨by simpa using h.1, .inr ⟨q, c, cur.setIfInBounds k (.int .i64 z), rfl, hb, Blk.set_ (t := 3) (cs := cur) hh k _, hcap, hmax, by simpa using hcs, ?_⟩⟩
    rw [List.map_set, ← ht]
    simp [List.take_set]
theorem DvAt.setB {q n c : Nat} (h : DvAt g B w0 hs az bz vh va (.slice (some ⟨q, 0, none⟩) n c) w) (z : Int) : DvAt g B w0 hs az (bz.set 0 z) vh va (.slice (some ⟨q, 0, none⟩) n c) (w.setCell ⟨q, 0, none⟩ (.int .i64 z)) := by
  have hq := (own_at h.brow (k := q) rfl).1
  have hgB := h.gB
  have hB := h.hB
  have hn : n = bz.length := by
    obtain ⟨A, c', e⟩ := own_slice h.brow
    cases e
    rfl
  subst hn
  refine ⟨h.cur.setCell (by show g < q; omega) _, h.gB, h.hB, h.only.setCell (.inr (by show w0.heap.size ≤ q; omega)) _, h.hrow.keep (fun t s u m xs ht k => own_setFar k (fun e => own_type k h.brow (by rcases ht with rfl | rfl <;> decide) q e rfl) _), own_setFar h.arow (fun e => h.apart q e rfl) _, by simpa using own_setIntV h.brow 0 z, h.apart⟩
/-- The first number of the second view, as it lies. -/
theorem DvAt.b0 (h : DvAt g B w0 hs az bz vh va vb w) (hl : 0 < bz.length) : ∃ q c u, vb = .slice (some ⟨q, 0, none⟩) bz.length c ∧ w.cell? ⟨q, 0, none⟩ = some u ∧ w.frozen? ⟨q, 0, none⟩ = false ∧ q < w.heap.size := by
  rcases h.brow.2 with ⟨-, h0⟩ | ⟨q, cap, cur, e, hq, hh, hcap, hmax, hcs, ht⟩
  · omega
  · have hb : Blk w q 3 cur := hh
    refine ⟨q, cap, cur[0]'(by omega), e, ?_, hb.frozen 0, hb.lt⟩
    rw [hb.cell]
    exact Array.getElem?_eq_getElem (by omega)

/-- In a round: the history's box and its posts beside. -/
structure DvH (g B T b off c : Nat) (w0 : World) (l : List PostD) (hs : List (List PostD)) (az bz : List Int) (vh va vb : Value) (w : World) : Prop where
  dv : DvAt g B w0 hs az bz vh va vb w
  box : Blk w T 45 #[.slice (some ⟨b, off, none⟩) l.length c]
  own : w.ownsRow B 47 4 (.slice (some ⟨b, off, none⟩) l.length c) l.length (flatP l)
  gT : B ≤ T
section
variable {T b off c : Nat} {l : List PostD}
theorem DvH.cell (h : DvH g B T b off c w0 l hs az bz vh va vb w) : w.cell? ⟨T, 0, none⟩ = some (.slice (some ⟨b, off, none⟩) l.length c) := h.box.cell 0
theorem DvH.drew (h : DvH g B T b off c w0 l hs az bz vh va vb w) : DvH g B T b off c w0 l hs az bz vh va vb w.drew := ⟨h.dv.drew, h.box, h.own, h.gT⟩
theorem DvH.alloc (h : DvH g B T b off c w0 l hs az bz vh va vb w) (o : Obj) : DvH g B T b off c w0 l hs az bz vh va vb (w.alloc o) := ⟨h.dv.alloc o, h.box.alloc o, own_alloc h.own o, h.gT⟩
theorem DvH.call (h : DvH g B T b off c w0 l hs az bz vh va vb w) (hc : Cur w' g) (ho : Only g w w') : DvH g B T b off c w0 l hs az bz vh va vb w' :=
  ⟨h.dv.call hc ho, h.box.only ho (by have := h.gT; have := h.dv.gB; omega), own_only h.own ho h.dv.gB, h.gT⟩
theorem DvH.growA (h : DvH g B T b off c w0 l hs az bz vh va vb w) {gg m cap : Nat} {z : Int} {n : Nat} (ho : w'.ownsRow B 3 1 (.slice (some ⟨gg, 0, none⟩) m cap) n (az.map (Value.int .i64) ++ [.int .i64 z])) (hg : w.grownBy w' va.ownBlock) (hat : va.ownBlock = some gg ∨ gg = w.heap.size) : DvH g B T b off c w0 l hs (az ++ [z]) bz vh (.slice (some ⟨gg, 0, none⟩) m cap) vb w' :=
  ⟨h.dv.growA ho hg hat, (hg.block T h.box.lt (blk_type h.box h.dv.arow (by decide))).trans h.box, own_apart h.own hg (own_type h.own h.dv.arow (by decide)), h.gT⟩
theorem DvH.growB (h : DvH g B T b off c w0 l hs az bz vh va vb w) {gg m cap : Nat} {z : Int} {n : Nat} (ho : w'.ownsRow B 3 1 (.slice (some ⟨gg, 0, none⟩) m cap) n (bz.map (Value.int .i64) ++ [.int .i64 z])) (hg : w.grownBy w' vb.ownBlock) (hat : vb.ownBlock = some gg ∨ gg = w.heap.size) : DvH g B T b off c w0 l hs az (bz ++ [z]) vh va (.slice (some ⟨gg, 0, none⟩) m cap) w' :=
  ⟨h.dv.growB ho hg hat, (hg.block T h.box.lt (blk_type h.box h.dv.brow (by decide))).trans h.box, own_apart h.own hg (own_type h.own h.dv.brow (by decide)), h.gT⟩
/-- The history joins the row. -/
theorem DvAt.growH (h : DvAt g B w0 hs az bz vh va vb w) {hv : List Value} {v' : Value} (h0 : w.ownsRow B 45 1 vh hs.length hv) (hp : ∀ k, k < hs.length → ∃ A c, hv[k]? = some (.slice A (geth hs k).length c) ∧ (geth hs k).length ≤ c ∧ w.ownsRow B 47 4 (.slice A (geth hs k).length c) (geth hs k).length (flatP (geth hs k)))
    (hb : Blk w T 45 #[.slice (some ⟨b, off, none⟩) l.length c]) (hl : w.ownsRow B 47 4 (.slice (some ⟨b, off, none⟩) l.length c) l.length (flatP l)) (hc : l.length ≤ c) (hT : B ≤ T) (hne : some T ≠ vh.ownBlock)
    (hg : w.grownBy w' vh.ownBlock) (ho : w'.ownsRow B 45 1 v' (hs.length + 1) (hv ++ [.slice (some ⟨b, off, none⟩) l.length c])) : DvH g B T b off c w0 l (hs ++ [l]) az bz v' va vb w' := by
  obtain ⟨h1, h2⟩ := h.grown0 h0 hg
  exact ⟨⟨h1, h.gB, h.hB, h2, HRow.more h0 hp hl hc hg ho, own_apart h.arow hg (own_type h.arow h0 (by decide)), own_apart h.brow hg (own_type h.brow h0 (by decide)), h.apart⟩, (hg.block T hb.lt hne).trans hb, own_apart hl hg (own_type hl h0 (by decide)), hT⟩
theorem l1Below_dvh (h : DvH g B T b off c w0 l hs az bz vh va vb w) (hl : 1 ≤ l.length ∧ l.length ≤ 5) (hs' : ∀ d ∈ l, SmallP d) :
    Calls Try.prog 76 #[.pointer (some ⟨g, 0, none⟩), .int .i64 l.length] w fun e w' => ∃ (j : Nat) (z : Int), e = .returned (.int .i64 j) ∧ (j < l.length ∧ 0 ≤ z ∧ z ≤ 10) ∧ w'.cell? ⟨b, off + j * 4, none⟩ = some (.int .i64 z) ∧ w'.cell? ⟨T, 0, none⟩ = some (.slice (some ⟨b, off, none⟩) l.length c) ∧ DvH g B T b off c w0 l hs az bz vh va vb w' := by
  refine (l1Below_any g l.length w (by omega) (by omega) h.dv.cur).mono ?_
  rintro e w' ⟨x, rfl, hx, hc, ho⟩
  have h1 := belowP hx (by omega)
  obtain ⟨j, rfl⟩ : ∃ j : Nat, x = j := ⟨x.toNat, by omega⟩
  have h2 := h.call hc ho
  obtain ⟨A', c', e, -, hp⟩ := own_posts h2.own hs'
  cases e
  obtain ⟨b', o', e, -, hk⟩ := hp.2 (by omega)
  cases e
  obtain ⟨V, cv, h3, -, -⟩ := hk j (by omega)
  have h4 := smallP_get hs' (k := j) (by omega)
  exact ⟨j, _, rfl, ⟨by omega, h4.1, h4.2.1⟩, h3.1, h2.cell, h2⟩
end
end
end Go.Proofs.Ytbhfkfapdpedpaa
