/- A queue's program as plain lists; a program in the making, its numbers and threads appended. -/
import Derived.Test.YtjendjbbhohjcaaDqD
import Derived.Test.YtjendjbbhohjcaaFenR
namespace Go.Proofs.Ytjendjbbhohjcaa
open Go.RowKit

/-- The cells at first. -/
def initI (z : Int) (k : Nat) : List Int := [0, z] ++ (List.range k).map (fun (i : Nat) => if (i : Int) < z then 11 + (i : Int) else 0)
/-- The thieves. -/
def thiefTs (zs : List Int) (f : Int) (k : Nat) : List (List InsD) := (List.range k).map fun t => thiefI (geti zs t) (stB f)
def dqTs (zs : List Int) (f : Int) (k : Nat) : List (List InsD) := takeI 0 (tkB f) :: thiefTs zs f k
/-- Is each number of steals in 1 .. 2? -/
def stealsB (zs : List Int) (k : Nat) : Bool := allB (fun t => decide (1 ≤ geti zs t ∧ geti zs t ≤ 2)) k
def okQ (z : Int) (zs : List Int) (f : Int) : Bool := decide (1 ≤ z ∧ z ≤ 4 ∧ zs.length ≤ 2 ∧ 0 ≤ f ∧ f ≤ 3) && stealsB zs zs.length
def dqQ (z : Int) (zs : List Int) (f : Int) : ProgD := ⟨initI z 4, dqTs zs f zs.length⟩
def dqP (z : Int) (zs : List Int) (f : Int) : ProgD := if okQ z zs f then dqQ z zs f else ⟨[], []⟩
theorem initI_succ (z : Int) (k : Nat) : initI z (k + 1) = initI z k ++ [if (k : Int) < z then 11 + (k : Int) else 0] := by
  unfold initI
  rw [List.range_succ, List.map_append, ← List.append_assoc]
  rfl
theorem initI_len (z : Int) (k : Nat) : (initI z k).length = k + 2 := by unfold initI; simp
theorem dqTs_len (zs : List Int) (f : Int) (k : Nat) : (dqTs zs f k).length = k + 1 := by simp [dqTs, thiefTs]
theorem dqTs_succ (zs : List Int) (f : Int) (k : Nat) : dqTs zs f (k + 1) = dqTs zs f k ++ [thiefI (geti zs k) (stB f)] := by
  unfold dqTs thiefTs
  rw [List.range_succ, List.map_append]
  rfl
theorem movL_zero (l : List InsD) : movL ((0 : Nat) : Int) l = l := by
  unfold movL
  have : (fun d => movI ((0 : Nat) : Int) d) = id := by
    funext d
    unfold movI
    split
    · simp
    · rfl
  rw [show movI ((0 : Nat) : Int) = id from this, List.map_id]
theorem thief_one (z : Int) (b : Bool) (h : z = 1) : joinTo [stealI 0 b] 1 = thiefI z b := by
  subst h
  show [] ++ movL ((0 : Nat) : Int) (stealI 0 b) = _
  rw [movL_zero]
  rfl
theorem thief_two (z : Int) (b : Bool) (h : z = 2) : joinTo [stealI 0 b, stealI 1 b] 2 = thiefI z b := by
  subst h
  show ([] ++ movL ((0 : Nat) : Int) (stealI 0 b)) ++ movL ((([] ++ movL ((0 : Nat) : Int) (stealI 0 b)).length : Nat) : Int) (stealI 1 b) = _
  rw [movL_zero]
  rfl
theorem thiefI_len (z : Int) (b : Bool) : (thiefI z b).length ≤ 24 := by
  unfold thiefI
  split
  · rw [List.length_append, show (movL ((stealI 0 b).length : Int) (stealI 1 b)).length = (stealI 1 b).length from by simp [movL], stealI_len, stealI_len]; cases b <;> decide
  · rw [stealI_len]; split <;> omega

section
variable {w0 w w1 : World} {T : Nat} {zs : List Int} {v tv : Value} {ts : List (List InsD)} {vs : List Value} {l : List InsD}
/-- A number more. -/
theorem CrAt.growInts {v' : Value} {x : Int} {xs : List Value} (h : CrAt w0 T zs v ts vs tv w) (hxs : xs = zs.map (Value.int .i64) ++ [.int .i64 x]) (ho : w1.ownsRow (w0.heap.size + 1) 3 1 v' (zs.length + 1) xs) (hgr : w.grownBy w1 v.ownBlock) :
    PrC w1 T v tv ∧ CrAt w0 T (zs ++ [x]) v' ts vs tv (w1.setCell ⟨T, 0, none⟩ v') := by
  have hlo := h.lo
  have hT := h.blk.lt
  have hr : ∀ k, k < w0.heap.size + 1 → some k ≠ v.ownBlock := fun _ hk => own_far h.own.ints hk
  have hB : Blk w1 T 37 #[v, tv] := (hgr.block T hT (blk_far h.blk h.own.ints (by decide))).trans h.blk
  have hB1 : Blk (w1.setCell ⟨T, 0, none⟩ v') T 37 #[v', tv] := by have := hB.set_ 0 v'; simpa using this
  have ho2 := h.own.growInts hxs ho hgr
  have far := fun {e : TypeId} {size : Nat} {u' : Value} {n : Nat} {xs : List Value} (k : w1.ownsRow (w0.heap.size + 1) e size u' n xs) (hne : e ≠ 37) => own_setFar k (p := ⟨T, 0, none⟩) (fun e => by
    obtain ⟨_, _, cur, h1⟩ := own_lt k e
    have h2 : w1.heap[T]? = some (.cells #[v, tv] 37 (0, 0)) := hB
    have h3 : w1.heap[T]? = some (.cells cur _ (0, 0)) := h1
    rw [h2] at h3
    cases h3
    exact hne rfl) v'
  refine ⟨⟨⟨hB.cell 0, hB.cell 1⟩, hB.frozen 0, hB.frozen 1⟩, ⟨?_, hB1, ⟨far ho2.ints (by decide), far ho2.rows (by decide), fun k hk => far (ho2.thr k hk) (by decide), ho2.apart⟩, hlo, h.out.imp fun _ => Exists.imp fun _ k => Blk.far ((hgr.block w0.heap.size (Blk.lt k) (hr _ (by omega))).trans k) (by show w0.heap.size ≠ T; omega) _⟩⟩
  have hz := h.below.size
  refine Below.setCell ?_ (by show w0.heap.size ≤ T; omega) _
  exact ⟨hgr.os.trans h.below.os, hgr.tape.trans h.below.tape, hgr.output.trans h.below.output, Nat.le_trans h.below.size hgr.size, fun k hk => (hgr.block k (by omega) (hr k (by omega))).trans (h.below.block k hk)⟩
/-- What answers a thread of its own. -/
def ThrR (w w' : World) (e : Ending) (l : List InsD) : Prop := ∃ A c, e = .returned (.agg #[.slice A l.length c]) ∧ w'.ownsRow w.heap.size 89 6 (.slice A l.length c) l.length (flat l) ∧ Below w.heap.size w w'
/-- A row that has been answered, as a thread's. -/
theorem CrAt.lat {A : Option Addr} {c : Nat} (h : CrAt w0 T zs v ts vs tv w) (hb : Below w.heap.size w w1) (ho : w1.ownsRow w.heap.size 89 6 (.slice A l.length c) l.length (flat l)) : LAt w0 T zs v ts vs tv l (.slice A l.length c) w1 :=
  ⟨h.next hb, own_base ho (by have := h.blk.lt; have := h.lo; omega), fun j hj => apart_new (h.own.thr j hj) ho (Nat.le_refl _)⟩
/-- A program with one thread, just built. -/
theorem CrAt.start1 {W w2 : World} {lv : Value} (hW : Below w0.heap.size w0 W) (hs : w0.heap.size + 1 ≤ W.heap.size) (hR : ∃ u u', Blk W w0.heap.size 37 #[u, u']) (hb : Below W.heap.size W w2)
    (hv : w2.ownsRow W.heap.size 3 1 v zs.length (zs.map (Value.int .i64))) (hl : w2.ownsRow W.heap.size 89 6 lv l.length (flat l)) :
    CrAt w0 (w2.heap.size + 1) zs v [l] [lv] (.slice (some ⟨w2.heap.size, 0, none⟩) 1 1) ((w2.alloc (.cells #[lv] 45)).alloc (.cells #[v, .slice (some ⟨w2.heap.size, 0, none⟩) 1 1] 37)) := by
  have hz := hb.size
  have hP0 : ProgOwn w2 (w0.heap.size + 1) zs v [] [] (.slice none 0 0) := ⟨own_base hv hs, ⟨rfl, .inl ⟨rfl, rfl⟩⟩, fun k hk => by simp at hk, fun j k _ hk => by simp at hk⟩
  have hP1 := hP0.growRows (w1 := w2.alloc (.cells #[lv] 45)) (tv' := .slice (some ⟨w2.heap.size, 0, none⟩) 1 1) (own_base hl hs) (fun k hk => by simp at hk) (own_lit w2 (w0.heap.size + 1) 45 1 1 #[lv] (by omega) (by omega) rfl) ⟨rfl, rfl, rfl, by simp, fun k hk _ => Below.heap_alloc _ _ k hk⟩
  have hX := Blk.new (w2.alloc (.cells #[lv] 45)) 37 #[v, .slice (some ⟨w2.heap.size, 0, none⟩) 1 1]
  simp only [World.size_alloc] at hX
  obtain ⟨u, u', hR⟩ := hR
  exact ⟨((hW.trans (hb.mono (by omega))).alloc (by omega) _).alloc (by simp; omega) _, hX, hP1.keep (fun b _ hlt => Below.heap_alloc _ _ b hlt), by omega, u, u', ((hR.below hb hR.lt).alloc _).alloc _⟩
end
end Go.Proofs.Ytjendjbbhohjcaa
