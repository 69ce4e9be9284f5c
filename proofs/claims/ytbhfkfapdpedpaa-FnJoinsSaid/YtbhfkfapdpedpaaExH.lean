/- What an exact law's walk on histories carries from world to world: copies of histories between two block numbers; what marks them. -/
import Derived.Test.YtbhfkfapdpedpaaExI
import Derived.Test.YtbhfkfapdpedpaaHistK
namespace Go.Proofs.Ytbhfkfapdpedpaa
open Go.RowKit

/-- A copy of a history, at the head of block q, all of it from lo on and below hi. -/
def PoI (w : World) (lo hi q : Nat) (l : List PostD) : Prop := (∃ qs, PostsOwn w lo hi q qs l) ∧ hi ≤ w.heap.size
/-- A copy of a row of histories. -/
def HsI (w : World) (lo hi q : Nat) (hs : List (List PostD)) : Prop := (∃ los his pq qs, HistsOwn w lo hi q hs los his pq qs) ∧ hi ≤ w.heap.size
section
variable {w w' w0 : World} {lo hi lo' hi' n B q k : Nat} {l : List PostD} {hs : List (List PostD)} {t : TypeId} {v : Value} {zs : List Int} {cs : Array Value} {A : Option Addr}
theorem PoI.next (h : PoI w lo hi q l) (hb : Below w.heap.size w w') : PoI w' lo hi q l := by
  obtain ⟨⟨qs, h1⟩, h2⟩ := h
  exact ⟨⟨qs, h1.next hb⟩, Nat.le_trans h2 hb.size⟩
theorem PoI.src (h : PoI w lo hi q l) : PostsAt w (Old w.heap.size) (some ⟨q, 0, none⟩) l := by
  obtain ⟨⟨qs, h1⟩, h2⟩ := h
  exact h1.at_.more (fun b hb => Nat.lt_of_lt_of_le hb.2 h2)
theorem HsI.next (h : HsI w lo hi q hs) (hb : Below w.heap.size w w') : HsI w' lo hi q hs := by
  obtain ⟨⟨a, b, c, d, h1⟩, h2⟩ := h
  exact ⟨⟨a, b, c, d, h1.next hb⟩, Nat.le_trans h2 hb.size⟩
theorem HsI.src (h : HsI w lo hi q hs) : HistsAt w (Old w.heap.size) (some ⟨q, 0, none⟩) hs := by
  obtain ⟨⟨a, b, c, d, h1⟩, h2⟩ := h
  exact h1.at_.more (fun b hb => Nat.lt_of_lt_of_le hb.2 h2)
theorem PostsAt.nextI (h : PostsAt w (Old B) A l) (hb : Below w.heap.size w w') (hB : B ≤ w.heap.size) : PostsAt w' (Old B) A l := h.below hb (fun _ h => Nat.lt_of_lt_of_le h hB)
theorem HistsAt.nextI (h : HistsAt w (Old B) A hs) (hb : Below w.heap.size w w') (hB : B ≤ w.heap.size) : HistsAt w' (Old B) A hs := h.below hb (fun _ h => Nat.lt_of_lt_of_le h hB)
theorem PostsAt.grownI (h : PostsAt w (Old B) A l) (hg : w.grownBy w' v.ownBlock) (hv : RvI t w lo hi v n zs) (hlo : B ≤ lo) (hB : B ≤ w.heap.size) : PostsAt w' (Old B) A l :=
  h.below (below_own hg (fun k hk e => by have := (hv.1.own_lt e.symm).1; omega) hB) (fun _ h => h)
theorem HistsAt.grownI (h : HistsAt w (Old B) A hs) (hg : w.grownBy w' v.ownBlock) (hv : RvI t w lo hi v n zs) (hlo : B ≤ lo) (hB : B ≤ w.heap.size) : HistsAt w' (Old B) A hs :=
  h.below (below_own hg (fun k hk e => by have := (hv.1.own_lt e.symm).1; omega) hB) (fun _ h => h)
theorem Inn.belowB (h : Inn lo hi w w') (hB : B ≤ lo) (hw : B ≤ w.heap.size) : Below B w w' := ⟨h.os, h.tape, h.output, h.size, fun k hk => h.block k (by omega) (fun e => by omega)⟩
theorem PostsAt.inn (h : PostsAt w (Old B) A l) (ho : Inn lo hi w w') (hB : B ≤ lo) (hw : B ≤ w.heap.size) : PostsAt w' (Old B) A l := h.below (ho.belowB hB hw) (fun _ h => h)
theorem HistsAt.inn (h : HistsAt w (Old B) A hs) (ho : Inn lo hi w w') (hB : B ≤ lo) (hw : B ≤ w.heap.size) : HistsAt w' (Old B) A hs := h.below (ho.belowB hB hw) (fun _ h => h)
theorem IntsAt.inn (h : IntsAt w (Old B) A zs) (ho : Inn lo hi w w') (hB : B ≤ lo) (hw : B ≤ w.heap.size) : IntsAt w' (Old B) A zs := h.below (ho.belowB hB hw) (fun _ h => h)
theorem below_inn (h : Below B w0 w) (ho : Inn lo hi w w') (hB : B ≤ lo) (hw : B ≤ w.heap.size) : Below B w0 w' := h.trans (ho.belowB hB hw)
theorem Blk.inn (h : Blk w k t cs) (ho : Inn lo hi w w') (hk : k < lo ∨ hi ≤ k) : Blk w' k t cs := (ho.block k h.lt (fun e => by omega)).trans h
theorem RvI.inn (h : RvI t w lo' hi' v n zs) (ho : Inn lo hi w w') (ha : hi' ≤ lo ∨ hi ≤ lo') : RvI t w' lo' hi' v n zs :=
  ⟨h.1.keep (fun k hk e => ho.block k hk (fun e' => by
    have h1 := h.2 k e
    have h2 := (h.1.own_lt e).1
    omega)), h.2⟩
end

theorem toHistI {A : Option Addr} {l : List PostD} {c : Nat} {S : Nat → Prop} {w : World} (hn : postSize l ≤ 1048576) (hS : ∀ b, S b → b < w.heap.size) (ha : PostsAt w S A l) :
    Calls Try.prog 64 #[.agg #[.slice A l.length c]] w fun e w' => ∃ q, e = .returned (.agg #[.slice (some ⟨q, 0, none⟩) l.length l.length]) ∧ PoI w' w.heap.size w'.heap.size q l ∧ Below w.heap.size w w' := by
  refine (toHist_any A l c S w hn hS ha).mono ?_
  rintro e w' ⟨q, qs, rfl, h, hb⟩
  exact ⟨q, rfl, ⟨⟨qs, h⟩, Nat.le_refl _⟩, hb⟩
theorem toHistSI {A : Option Addr} {hs : List (List PostD)} {c : Nat} {S : Nat → Prop} {w : World} (hn : histSize hs ≤ 1048576) (hS : ∀ b, S b → b < w.heap.size) (ha : HistsAt w S A hs) :
    Calls Try.prog 67 #[.slice A hs.length c] w fun e w' => ∃ q, e = .returned (.slice (some ⟨q, 0, none⟩) hs.length hs.length) ∧ HsI w' w.heap.size w'.heap.size q hs ∧ Below w.heap.size w w' := by
  refine (toHistS_own A hs c S w hn hS ha).mono ?_
  rintro e w' ⟨q, los, his, pq, qs, rfl, h, hb⟩
  exact ⟨q, rfl, ⟨⟨los, his, pq, qs, h⟩, Nat.le_refl _⟩, hb⟩
theorem eqHistI {w : World} {lo hi lo' hi' q q' c c' : Nat} {l : List PostD} (h : PoI w lo hi q l) (k : PoI w lo' hi' q' l) :
    Calls Try.prog 65 #[.agg #[.slice (some ⟨q, 0, none⟩) l.length c], .agg #[.slice (some ⟨q', 0, none⟩) l.length c']] w fun e w' => e = .returned (.bool true) ∧ Below w.heap.size w w' :=
  eqHist_any _ _ l c c' (Old w.heap.size) w (fun _ h => h) h.src k.src
theorem eqHistSI {w : World} {lo hi lo' hi' q q' c c' : Nat} {hs : List (List PostD)} (h : HsI w lo hi q hs) (k : HsI w lo' hi' q' hs) :
    Calls Try.prog 70 #[.slice (some ⟨q, 0, none⟩) hs.length c, .slice (some ⟨q', 0, none⟩) hs.length c'] w fun e w' => e = .returned (.bool true) ∧ Below w.heap.size w w' :=
  eqHistS_any _ _ hs c c' (Old w.heap.size) w (fun _ h => h) h.src k.src

set_option maxHeartbeats 800000 in
theorem markHistI {w : World} {lo hi q c : Nat} {l : List PostD} {k : Int} (hn : postSize l ≤ 1048576) (h0 : 0 ≤ k) (h1 : k + 3 * postSize l ≤ 4194304) (h : PoI w lo hi q l) :
    Calls Try.prog 74 #[.agg #[.slice (some ⟨q, 0, none⟩) l.length c], .int .i64 k] w fun e w' => e = .returned (.int .i64 (markZ k (histN l))) ∧ Inn lo hi w w' := by
  obtain ⟨⟨qs, h2⟩, h3⟩ := h
  have hb := below1 w (Obj.cells #[Value.slice (some ⟨q, 0, none⟩) l.length c] 45)
  have hin : Inn lo hi w (w.alloc (Obj.cells #[Value.slice (some ⟨q, 0, none⟩) l.length c] 45)) := Inn.of_below hb
  have kM := markPostS_to (c := c) (k := k) hn h0 h1 (h2.next hb)
  have he : (k + 3 * (l.length : Int) + ((viewLens l).sum : Nat)) = markZ k (histN l) := by unfold markZ histN; omega
  rw [he] at kM
  replace kM := hide kM
  replace hin := hide hin
  clear h2 he hb h1 h0
  generalize markZ k (histN l) = z at *
  go_enter Try.func74, Try.ntmps74
  go_wp2_with fail
  refine kM.out.mono ?_
  rintro e w1 ⟨rfl, -, hI⟩
  have hf := hide (hin.out.trans hI)
  clear hI
  go_wp2_with fail
  go_ret
  exact ⟨rfl, hf.out⟩
theorem markHistSI {w : World} {lo hi q c : Nat} {hs : List (List PostD)} {k : Int} (hn : histSize hs ≤ 1048576) (h0 : 0 ≤ k) (h1 : k + 3 * histSize hs ≤ 4194304) (h : HsI w lo hi q hs) :
    Calls Try.prog 71 #[.slice (some ⟨q, 0, none⟩) hs.length c, .int .i64 k] w fun e w' => e = .returned (.int .i64 (markZ k (hlens hs).sum)) ∧ Inn lo hi w w' := by
  obtain ⟨⟨los, his, pq, qs, h2⟩, -⟩ := h
  refine (markHistS_to hn h0 h1 h2).mono ?_
  rintro e w' ⟨rfl, -, hI⟩
  exact ⟨rfl, hI⟩
theorem szHist_big {A : Option Addr} {l : List PostD} {c B : Nat} (hbig : 1048576 < postSize l) : ∀ w, B ≤ w.heap.size → PostsAt w (Old B) A l → Calls Try.prog 63 #[.agg #[.slice A l.length c], .int .i64 1048576] w fun e w' => e = .returned (.int .i64 (-1)) ∧ Below w.heap.size w w' := fun w hB ha => by
  have h := szHist_any A l c (Old B) 1048576 w (by omega) (by omega) (fun b h => Nat.lt_of_lt_of_le h hB) ha
  rw [szR_neg (by omega)] at h
  exact h
theorem szHist_small {A : Option Addr} {l : List PostD} {c B : Nat} (hs : postSize l ≤ 1048576) : ∃ s : Int, ¬ s < 0 ∧ ∀ w, B ≤ w.heap.size → PostsAt w (Old B) A l → Calls Try.prog 63 #[.agg #[.slice A l.length c], .int .i64 1048576] w fun e w' => e = .returned (.int .i64 s) ∧ Below w.heap.size w w' := by
  refine ⟨(1048576 : Int) - postSize l, by omega, fun w hB ha => ?_⟩
  have h := szHist_any A l c (Old B) 1048576 w (by omega) (by omega) (fun b h => Nat.lt_of_lt_of_le h hB) ha
  rw [szR_pos (by omega)] at h
  exact h
theorem szHistS_big {A : Option Addr} {hs : List (List PostD)} {c B : Nat} (hbig : 1048576 < histSize hs) : ∀ w, B ≤ w.heap.size → HistsAt w (Old B) A hs → Calls Try.prog 66 #[.slice A hs.length c, .int .i64 1048576] w fun e w' => e = .returned (.int .i64 (-1)) ∧ Below w.heap.size w w' := fun w hB ha => by
  have h := szHistS_any A hs c (Old B) 1048576 w (by omega) (by omega) (fun b h => Nat.lt_of_lt_of_le h hB) ha
  rw [szR_neg (by omega)] at h
  exact h
theorem szHistS_small {A : Option Addr} {hs : List (List PostD)} {c B : Nat} (hz : histSize hs ≤ 1048576) : ∃ s : Int, ¬ s < 0 ∧ ∀ w, B ≤ w.heap.size → HistsAt w (Old B) A hs → Calls Try.prog 66 #[.slice A hs.length c, .int .i64 1048576] w fun e w' => e = .returned (.int .i64 s) ∧ Below w.heap.size w w' := by
  refine ⟨(1048576 : Int) - histSize hs, by omega, fun w hB ha => ?_⟩
  have h := szHistS_any A hs c (Old B) 1048576 w (by omega) (by omega) (fun b h => Nat.lt_of_lt_of_le h hB) ha
  rw [szR_pos (by omega)] at h
  exact h
end Go.Proofs.Ytbhfkfapdpedpaa
