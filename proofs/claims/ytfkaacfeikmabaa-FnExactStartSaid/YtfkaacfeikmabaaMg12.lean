/- How a state lies in memory: seven pieces, apart from each other; what keeps them; a state's marks. · laws' helpers on a state: eqState, markState, heldState. · laws' helpers on a state: eqState, markState, heldState. -/
import Derived.Test.YtfkaacfeikmabaaMg8
import Derived.Test.YtfkaacfeikmabaaMg11
namespace Go.Proofs.Ytfkaacfeikmabaa
open Go.RowKit

/-- A row of rows: where it lies, its header, its rows. -/
structure RowsP where
  lo : Nat
  hi : Nat
  A : Option Addr
  n : Nat
  c : Nat
  rs : List RowD
/-- A row of histories. -/
structure HistP where
  lo : Nat
  hi : Nat
  A : Option Addr
  n : Nat
  c : Nat
  hs : List (List PostD)
  los : Nat → Nat
  his : Nat → Nat
  pq : Nat → Nat
  qs : Nat → Nat → Nat
structure StD where
  kind : Int
  pc : RowD
  F : RowsP
  mem : RowD
  bufs : RowsP
  H : HistP
  view : RowsP
  sc : RowD
  next : Int
def StD.cells (s : StD) : Array Value := #[.int .i64 s.kind, .slice s.pc.A s.pc.n s.pc.c, .slice s.F.A s.F.n s.F.c, .slice s.mem.A s.mem.n s.mem.c, .slice s.bufs.A s.bufs.n s.bufs.c, .slice s.H.A s.H.n s.H.c, .slice s.view.A s.view.n s.view.c, .slice s.sc.A s.sc.n s.sc.c, .int .i64 s.next]
def StD.iv (s : StD) (i : Nat) : Nat × Nat := [(s.pc.lo, s.pc.hi), (s.F.lo, s.F.hi), (s.mem.lo, s.mem.hi), (s.bufs.lo, s.bufs.hi), (s.H.lo, s.H.hi), (s.view.lo, s.view.hi), (s.sc.lo, s.sc.hi)].getD i (0, 0)

/-- A row of histories at an address; nothing is known of it where there is no element. -/
def HistsI (w : World) (r : HistP) : Prop := r.hs = [] ∨ ∃ q, r.A = some ⟨q, 0, none⟩ ∧ HistsOwn w r.lo r.hi q r.hs r.los r.his r.pq r.qs
def RowD.ok (w : World) (r : RowD) : Prop := RvI 3 w r.lo r.hi (.slice r.A r.n r.c) r.n r.zs ∧ r.zs.length = r.n ∧ r.n ≤ 1048576
def RowsP.okF (w : World) (r : RowsP) : Prop := RowsI 69 3 w r.lo r.hi r.A r.rs ∧ r.rs.length = r.n ∧ r.n ≤ 1048576 ∧ ∀ k, k < r.rs.length → (getr r.rs k).zs.length = (getr r.rs k).n ∧ (getr r.rs k).n ≤ 1048576
def RowsP.okB (w : World) (r : RowsP) : Prop := RowsI 182 197 w r.lo r.hi r.A r.rs ∧ r.rs.length = r.n ∧ r.n ≤ 1048576 ∧ ∀ k, k < r.rs.length → (getr r.rs k).zs.length = (getr r.rs k).n * 2 ∧ (getr r.rs k).n ≤ 1048576
def HistP.ok (w : World) (r : HistP) : Prop := HistsI w r ∧ r.hs.length = r.n ∧ histSize r.hs ≤ 1048576

structure StIn (w : World) (s : StD) : Prop where
  pc : s.pc.ok w
  F : s.F.okF w
  mem : s.mem.ok w
  bufs : s.bufs.okB w
  H : s.H.ok w
  view : s.view.okF w
  sc : s.sc.ok w
  apart : ∀ i j, i < j → j < 7 → (s.iv i).2 ≤ (s.iv j).1 ∨ (s.iv j).2 ≤ (s.iv i).1
  bnd : ∀ i, i < 7 → (s.iv i).2 ≤ w.heap.size

section
variable {w w' : World} {lo hi g : Nat} {t : TypeId} {cs : Array Value}
theorem Blk.inn (h : Blk w g t cs) (hi' : Inn lo hi w w') (ha : g < lo ∨ hi ≤ g) : Blk w' g t cs := (hi'.block g h.lt (by omega)).trans h
theorem RowD.ok.inn {r : RowD} (h : r.ok w) (hi' : Inn lo hi w w') (ha : hi ≤ r.lo ∨ r.hi ≤ lo) : r.ok w' := ⟨h.1.keep (fun b b1 b2 b3 => hi'.block b b3 (by omega)), h.2⟩
theorem RowsP.okF.inn {r : RowsP} (h : r.okF w) (hi' : Inn lo hi w w') (ha : hi ≤ r.lo ∨ r.hi ≤ lo) : r.okF w' := ⟨h.1.keep (fun b b1 b2 b3 => hi'.block b b3 (by omega)), h.2⟩
theorem RowsP.okB.inn {r : RowsP} (h : r.okB w) (hi' : Inn lo hi w w') (ha : hi ≤ r.lo ∨ r.hi ≤ lo) : r.okB w' := ⟨h.1.keep (fun b b1 b2 b3 => hi'.block b b3 (by omega)), h.2⟩
theorem HistsI.keep {r : HistP} (h : HistsI w r) (hk : ∀ b, r.lo ≤ b → b < r.hi → b < w.heap.size → w'.heap[b]? = w.heap[b]?) : HistsI w' r := by
  rcases h with h | ⟨q, e, h⟩
  · exact .inl h
  · exact .inr ⟨q, e, h.keep hk⟩
theorem HistP.ok.inn {r : HistP} (h : r.ok w) (hi' : Inn lo hi w w') (ha : hi ≤ r.lo ∨ r.hi ≤ lo) : r.ok w' := ⟨h.1.keep (fun b b1 b2 b3 => hi'.block b b3 (by omega)), h.2⟩
end
section
variable {w w' : World} {s : StD}
theorem Apart.sym {a b c d : Nat} (h : a ≤ b ∨ c ≤ d) : c ≤ d ∨ a ≤ b := h.symm
theorem StIn.next (h : StIn w s) (hb : Below w.heap.size w w') : StIn w' s :=
  have hi : Inn 0 0 w w' := Inn.of_below hb
  ⟨h.pc.inn hi (.inl (Nat.zero_le _)), h.F.inn hi (.inl (Nat.zero_le _)), h.mem.inn hi (.inl (Nat.zero_le _)), h.bufs.inn hi (.inl (Nat.zero_le _)), h.H.inn hi (.inl (Nat.zero_le _)), h.view.inn hi (.inl (Nat.zero_le _)), h.sc.inn hi (.inl (Nat.zero_le _)), h.apart, fun i hi => Nat.le_trans (h.bnd i hi) hb.size⟩
theorem StIn.stPc (h : StIn w s) {zs : List Int} (hk : ({ s.pc with zs := zs } : RowD).ok w') (hi : Inn s.pc.lo s.pc.hi w w') : StIn w' { s with pc := { s.pc with zs := zs } } :=
  ⟨hk, h.F.inn hi (h.apart 0 1 (by omega) (by omega)), h.mem.inn hi (h.apart 0 2 (by omega) (by omega)), h.bufs.inn hi (h.apart 0 3 (by omega) (by omega)), h.H.inn hi (h.apart 0 4 (by omega) (by omega)), h.view.inn hi (h.apart 0 5 (by omega) (by omega)), h.sc.inn hi (h.apart 0 6 (by omega) (by omega)), h.apart, fun i hi' => Nat.le_trans (h.bnd i hi') hi.size⟩
theorem StIn.stF (h : StIn w s) {rs : List RowD} (hk : ({ s.F with rs := rs } : RowsP).okF w') (hi : Inn s.F.lo s.F.hi w w') : StIn w' { s with F := { s.F with rs := rs } } :=
  ⟨h.pc.inn hi (h.apart 0 1 (by omega) (by omega)).symm, hk, h.mem.inn hi (h.apart 1 2 (by omega) (by omega)), h.bufs.inn hi (h.apart 1 3 (by omega) (by omega)), h.H.inn hi (h.apart 1 4 (by omega) (by omega)), h.view.inn hi (h.apart 1 5 (by omega) (by omega)), h.sc.inn hi (h.apart 1 6 (by omega) (by omega)), h.apart, fun i hi' => Nat.le_trans (h.bnd i hi') hi.size⟩
theorem StIn.stMem (h : StIn w s) {zs : List Int} (hk : ({ s.mem with zs := zs } : RowD).ok w') (hi : Inn s.mem.lo s.mem.hi w w') : StIn w' { s with mem := { s.mem with zs := zs } } :=
  ⟨h.pc.inn hi (h.apart 0 2 (by omega) (by omega)).symm, h.F.inn hi (h.apart 1 2 (by omega) (by omega)).symm, hk, h.bufs.inn hi (h.apart 2 3 (by omega) (by omega)), h.H.inn hi (h.apart 2 4 (by omega) (by omega)), h.view.inn hi (h.apart 2 5 (by omega) (by omega)), h.sc.inn hi (h.apart 2 6 (by omega) (by omega)), h.apart, fun i hi' => Nat.le_trans (h.bnd i hi') hi.size⟩
theorem StIn.stBufs (h : StIn w s) {rs : List RowD} (hk : ({ s.bufs with rs := rs } : RowsP).okB w') (hi : Inn s.bufs.lo s.bufs.hi w w') : StIn w' { s with bufs := { s.bufs with rs := rs } } :=
  ⟨h.pc.inn hi (h.apart 0 3 (by omega) (by omega)).symm, h.F.inn hi (h.apart 1 3 (by omega) (by omega)).symm, h.mem.inn hi (h.apart 2 3 (by omega) (by omega)).symm, hk, h.H.inn hi (h.apart 3 4 (by omega) (by omega)), h.view.inn hi (h.apart 3 5 (by omega) (by omega)), h.sc.inn hi (h.apart 3 6 (by omega) (by omega)), h.apart, fun i hi' => Nat.le_trans (h.bnd i hi') hi.size⟩
theorem StIn.stH (h : StIn w s) {hs : List (List PostD)} (hk : ({ s.H with hs := hs } : HistP).ok w') (hi : Inn s.H.lo s.H.hi w w') : StIn w' { s with H := { s.H with hs := hs } } :=
  ⟨h.pc.inn hi (h.apart 0 4 (by omega) (by omega)).symm, h.F.inn hi (h.apart 1 4 (by omega) (by omega)).symm, h.mem.inn hi (h.apart 2 4 (by omega) (by omega)).symm, h.bufs.inn hi (h.apart 3 4 (by omega) (by omega)).symm, hk, h.view.inn hi (h.apart 4 5 (by omega) (by omega)), h.sc.inn hi (h.apart 4 6 (by omega) (by omega)), h.apart, fun i hi' => Nat.le_trans (h.bnd i hi') hi.size⟩
theorem StIn.stView (h : StIn w s) {rs : List RowD} (hk : ({ s.view with rs := rs } : RowsP).okF w') (hi : Inn s.view.lo s.view.hi w w') : StIn w' { s with view := { s.view with rs := rs } } :=
  ⟨h.pc.inn hi (h.apart 0 5 (by omega) (by omega)).symm, h.F.inn hi (h.apart 1 5 (by omega) (by omega)).symm, h.mem.inn hi (h.apart 2 5 (by omega) (by omega)).symm, h.bufs.inn hi (h.apart 3 5 (by omega) (by omega)).symm, h.H.inn hi (h.apart 4 5 (by omega) (by omega)).symm, hk, h.sc.inn hi (h.apart 5 6 (by omega) (by omega)), h.apart, fun i hi' => Nat.le_trans (h.bnd i hi') hi.size⟩
theorem StIn.stSc (h : StIn w s) {zs : List Int} (hk : ({ s.sc with zs := zs } : RowD).ok w') (hi : Inn s.sc.lo s.sc.hi w w') : StIn w' { s with sc := { s.sc with zs := zs } } :=
  ⟨h.pc.inn hi (h.apart 0 6 (by omega) (by omega)).symm, h.F.inn hi (h.apart 1 6 (by omega) (by omega)).symm, h.mem.inn hi (h.apart 2 6 (by omega) (by omega)).symm, h.bufs.inn hi (h.apart 3 6 (by omega) (by omega)).symm, h.H.inn hi (h.apart 4 6 (by omega) (by omega)).symm, h.view.inn hi (h.apart 5 6 (by omega) (by omega)).symm, hk, h.apart, fun i hi' => Nat.le_trans (h.bnd i hi') hi.size⟩
end

/-- The first mark of each piece, and the one behind the last. -/
def stK1 (k : Int) (s : StD) : Int := markZ k s.pc.n
def stK2 (k : Int) (s : StD) : Int := stK1 k s + ((rlens s.F.rs).sum : Nat)
def stK3 (k : Int) (s : StD) : Int := markZ (stK2 k s) s.mem.n
def stK4 (k : Int) (s : StD) : Int := stK3 k s + ((rlens s.bufs.rs).sum : Nat)
def stK5 (k : Int) (s : StD) : Int := stK4 k s + ((hlens s.H.hs).sum : Nat)
def stK6 (k : Int) (s : StD) : Int := stK5 k s + ((rlens s.view.rs).sum : Nat)
def stK7 (k : Int) (s : StD) : Int := markZ (stK6 k s) s.sc.n
def mkSt (k : Int) (s : StD) : StD := { s with pc := { s.pc with zs := marks k.toNat s.pc.n }, F := { s.F with rs := mkRows (stK1 k s) s.F.rs }, mem := { s.mem with zs := marks (stK2 k s).toNat s.mem.n }, bufs := { s.bufs with rs := mkRows (stK3 k s) s.bufs.rs }, H := { s.H with hs := mkHists (stK4 k s) s.H.hs }, view := { s.view with rs := mkRows (stK5 k s) s.view.rs }, sc := { s.sc with zs := marks (stK6 k s).toNat s.sc.n } }
/-- A bound on a state's size. -/
def stB (s : StD) : Nat := s.pc.n + (rlens s.F.rs).sum + s.mem.n + (rlens s.bufs.rs).sum + 3 * histSize s.H.hs + (rlens s.view.rs).sum + s.sc.n
theorem stK_le {k : Int} {s : StD} (h0 : 0 ≤ k) (h1 : k + stB s ≤ 4194304) :
    (0 ≤ stK1 k s ∧ stK1 k s + ((rlens s.F.rs).sum : Nat) ≤ 4194304) ∧ (0 ≤ stK2 k s ∧ stK2 k s ≤ 4194304) ∧ (0 ≤ stK3 k s ∧ stK3 k s + ((rlens s.bufs.rs).sum : Nat) ≤ 4194304) ∧ (0 ≤ stK4 k s ∧ stK4 k s + 3 * histSize s.H.hs ≤ 4194304) ∧ (0 ≤ stK5 k s ∧ stK5 k s + ((rlens s.view.rs).sum : Nat) ≤ 4194304) ∧ (0 ≤ stK6 k s ∧ stK6 k s ≤ 4194304) ∧ 0 ≤ stK7 k s ∧ k ≤ 4194304 := by
  have := hlens_le s.H.hs
  unfold stB at h1
  unfold stK7 stK6 stK5 stK4 stK3 stK2 stK1 markZ
  omega
end Go.Proofs.Ytfkaacfeikmabaa

namespace Go.Proofs.Ytfkaacfeikmabaa
open Go.RowKit

section
variable {w : World} {k : Int}
theorem inn_of_grown {w w' : World} {lo hi n : Nat} {t : TypeId} {v : Value} {zs : List Int} (hg : w.grownBy w' v.ownBlock) (hv : RvI t w lo hi v n zs) : Inn lo hi w w' :=
  ⟨hg.os, hg.tape, hg.output, hg.size, fun b hb hn => hg.block b hb (fun e => hn ⟨(hv.1.own_lt e.symm).1, hv.2 b e.symm⟩)⟩
theorem markRow {r : RowD} (h : r.ok w) (h0 : 0 ≤ k) (h1 : k ≤ 4194304) :
    Calls Try.prog 72 #[.slice r.A r.n r.c, .int .i64 k] w fun e w' => e = .returned (.int .i64 (markZ k r.n)) ∧ ({ r with zs := marks k.toNat r.n } : RowD).ok w' ∧ Inn r.lo r.hi w w' := by
  refine (markIntSI h.2.1 h.2.2 h0 h1 h.1).mono ?_
  rintro e w' ⟨rfl, hr, hg⟩
  exact ⟨rfl, ⟨hr, by simp [marks_len], h.2.2⟩, inn_of_grown hg h.1⟩
theorem heldRow {r : RowD} (h : ({ r with zs := marks k.toNat r.n } : RowD).ok w) (h0 : 0 ≤ k) (h1 : k ≤ 4194304) :
    Calls Try.prog 74 #[.slice r.A r.n r.c, .int .i64 k] w fun e w' => e = .returned (.int .i64 (markZ k r.n)) ∧ Below w.heap.size w w' :=
  heldIntSI h.2.2 h0 h1 h.1
theorem mkRows_ok {f : Nat → Nat} {rs : List RowD} (h : ∀ j, j < rs.length → (getr rs j).zs.length = f (getr rs j).n ∧ (getr rs j).n ≤ 1048576) : ∀ j, j < (mkRows k rs).length → (getr (mkRows k rs) j).zs.length = f (getr (mkRows k rs) j).n ∧ (getr (mkRows k rs) j).n ≤ 1048576 := by
  intro j hj
  rw [mkRows_len] at hj
  rw [mkRows_get k rs j hj]
  have := h j hj
  exact ⟨by unfold mkRow; simp only [marks_len]; exact this.1, this.2⟩
theorem markFiles {r : RowsP} (h : r.okF w) (h0 : 0 ≤ k) (h1 : k + ((rlens r.rs).sum : Nat) ≤ 4194304) :
    Calls Try.prog 87 #[.slice r.A r.n r.c, .int .i64 k] w fun e w' => e = .returned (.int .i64 (k + ((rlens r.rs).sum : Nat))) ∧ ({ r with rs := mkRows k r.rs } : RowsP).okF w' ∧ Inn r.lo r.hi w w' := by
  obtain ⟨a, b, c, d⟩ := h
  rw [← b] at c
  have hk := markFileSI (c := r.c) h0 h1 c d a
  rw [b] at hk
  refine hk.mono ?_
  rintro e w' ⟨rfl, hr, hi⟩
  exact ⟨rfl, ⟨hr, (mkRows_len k r.rs).trans b, by rw [b] at c; exact c, mkRows_ok (f := fun n => n) d⟩, hi⟩
theorem heldFiles {r : RowsP} (h : ({ r with rs := mkRows k r.rs } : RowsP).okF w) (h2 : ∀ j, j < r.rs.length → (getr r.rs j).zs.length = (getr r.rs j).n ∧ (getr r.rs j).n ≤ 1048576) (h0 : 0 ≤ k) (h1 : k + ((rlens r.rs).sum : Nat) ≤ 4194304) :
    Calls Try.prog 90 #[.slice r.A r.n r.c, .int .i64 k] w fun e w' => e = .returned (.int .i64 (k + ((rlens r.rs).sum : Nat))) ∧ Below w.heap.size w w' := by
  obtain ⟨a, b, c, -⟩ := h
  have b : r.rs.length = r.n := (mkRows_len k r.rs).symm.trans b
  have c : r.n ≤ 1048576 := c
  rw [← b] at c
  have hk := heldFileSI (c := r.c) h0 h1 c h2 a
  rw [b] at hk
  exact hk
theorem markBufs {r : RowsP} (h : r.okB w) (h0 : 0 ≤ k) (h1 : k + ((rlens r.rs).sum : Nat) ≤ 4194304) :
    Calls Try.prog 88 #[.slice r.A r.n r.c, .int .i64 k] w fun e w' => e = .returned (.int .i64 (k + ((rlens r.rs).sum : Nat))) ∧ ({ r with rs := mkRows k r.rs } : RowsP).okB w' ∧ Inn r.lo r.hi w w' := by
  obtain ⟨a, b, c, d⟩ := h
  rw [← b] at c
  have hk := markBufSI (c := r.c) h0 h1 c d a
  rw [b] at hk
  refine hk.mono ?_
  rintro e w' ⟨rfl, hr, hi⟩
  exact ⟨rfl, ⟨hr, (mkRows_len k r.rs).trans b, by rw [b] at c; exact c, mkRows_ok (f := fun n => n * 2) d⟩, hi⟩
theorem heldBufs {r : RowsP} (h : ({ r with rs := mkRows k r.rs } : RowsP).okB w) (h2 : ∀ j, j < r.rs.length → (getr r.rs j).zs.length = (getr r.rs j).n * 2 ∧ (getr r.rs j).n ≤ 1048576) (h0 : 0 ≤ k) (h1 : k + ((rlens r.rs).sum : Nat) ≤ 4194304) :
    Calls Try.prog 91 #[.slice r.A r.n r.c, .int .i64 k] w fun e w' => e = .returned (.int .i64 (k + ((rlens r.rs).sum : Nat))) ∧ Below w.heap.size w w' := by
  obtain ⟨a, b, c, -⟩ := h
  have b : r.rs.length = r.n := (mkRows_len k r.rs).symm.trans b
  have c : r.n ≤ 1048576 := c
  rw [← b] at c
  have hk := heldBufSI (c := r.c) h0 h1 c h2 a
  rw [b] at hk
  exact hk
theorem markHistS_nil (A : Option Addr) (c : Nat) (k : Int) (w : World) : Calls Try.prog 89 #[.slice A 0 c, .int .i64 k] w fun e w' => e = .returned (.int .i64 k) ∧ w = w' := by
  go_enter Try.func89, Try.ntmps89
  go_wp2_with fail
  go_loopw [1, 5] (fun q1 i wr => i = .int .i64 0 ∧ q1 = .int .i64 k ∧ w = wr) (fun _ _ _ => 0)
  case atStart => exact ⟨rfl, rfl, rfl⟩
  case round =>
    obtain ⟨rfl, rfl, rfl⟩ := hrel
    go_wp2_with fail
    go_ret
    exact ⟨rfl, rfl⟩
theorem heldHistS_nil (A : Option Addr) (c : Nat) (k : Int) (w : World) : Calls Try.prog 92 #[.slice A 0 c, .int .i64 k] w fun e w' => e = .returned (.int .i64 k) ∧ w = w' := by
  go_enter Try.func92, Try.ntmps92
  go_wp2_with fail
  go_loopw [1, 5] (fun q1 i wr => i = .int .i64 0 ∧ q1 = .int .i64 k ∧ w = wr) (fun _ _ _ => 0)
  case atStart => exact ⟨rfl, rfl, rfl⟩
  case round =>
    obtain ⟨rfl, rfl, rfl⟩ := hrel
    go_wp2_with fail
    go_ret
    exact ⟨rfl, rfl⟩
theorem histSize_mk (k : Int) (hs : List (List PostD)) : histSize (mkHists k hs) = histSize hs := by
  unfold histSize
  rw [mkHists_len]
  congr 2
  unfold postLens mkHists
  apply List.ext_getElem
  · simp
  · intro i h1 h2
    simp only [List.length_map] at h2
    simp only [List.getElem_map, List.getElem_range]
    have e : hs[i] = geth hs i := by simp [geth, List.getD_eq_getElem?_getD, List.getElem?_eq_getElem h2]
    rw [e]
    unfold mkHist postSize
    rw [mkPosts_len]
    congr 2
    unfold viewLens mkPosts
    apply List.ext_getElem
    · simp
    · intro j j1 j2
      simp only [List.length_map] at j2
      simp only [List.getElem_map, List.getElem_range]
      have e : (geth hs i)[j] = getp (geth hs i) j := by simp [getp, List.getD_eq_getElem?_getD, List.getElem?_eq_getElem j2]
      rw [e]
      unfold mkPost
      simp [marks_len]
theorem markHistsI {r : HistP} (h : r.ok w) (h0 : 0 ≤ k) (h1 : k + 3 * histSize r.hs ≤ 4194304) :
    Calls Try.prog 89 #[.slice r.A r.n r.c, .int .i64 k] w fun e w' => e = .returned (.int .i64 (k + ((hlens r.hs).sum : Nat))) ∧ ({ r with hs := mkHists k r.hs } : HistP).ok w' ∧ Inn r.lo r.hi w w' := by
  obtain ⟨a, b, c⟩ := h
  have B : (mkHists k r.hs).length = r.n := (mkHists_len k r.hs).trans b
  have C : histSize (mkHists k r.hs) ≤ 1048576 := by rw [histSize_mk]; exact c
  rcases a with a | ⟨q, e, a⟩
  · have hz : r.n = 0 := by rw [← b, a]; rfl
    have hs0 : (hlens r.hs).sum = 0 := by rw [a]; rfl
    have hm : mkHists k r.hs = [] := by rw [a]; rfl
    have hk := markHistS_nil r.A r.c k w
    rw [← hz] at hk
    refine hk.mono ?_
    rintro e w' ⟨rfl, rfl⟩
    exact ⟨by rw [hs0]; simp, ⟨.inl hm, B, C⟩, Inn.refl _ _ _⟩
  · have hk := markHistS_to (c := r.c) c h0 h1 a
    rw [← e, b] at hk
    refine hk.mono ?_
    rintro e' w' ⟨rfl, hr, hi⟩
    exact ⟨rfl, ⟨.inr ⟨q, e, hr⟩, B, C⟩, hi⟩
theorem heldHistsI {r : HistP} (h : ({ r with hs := mkHists k r.hs } : HistP).ok w) (h0 : 0 ≤ k) (h1 : k + 3 * histSize r.hs ≤ 4194304) :
    Calls Try.prog 92 #[.slice r.A r.n r.c, .int .i64 k] w fun e w' => e = .returned (.int .i64 (k + ((hlens r.hs).sum : Nat))) ∧ Below w.heap.size w w' := by
  obtain ⟨a, b, c⟩ := h
  have b : r.hs.length = r.n := (mkHists_len k r.hs).symm.trans b
  have c : histSize r.hs ≤ 1048576 := by rw [← histSize_mk k r.hs]; exact c
  rcases a with a | ⟨q, e, a⟩
  · have a : r.hs = [] := List.eq_nil_of_length_eq_zero (by rw [← mkHists_len k r.hs]; exact congrArg List.length a)
    rw [a] at b
    rw [← b]
    refine (heldHistS_nil r.A r.c k w).mono ?_
    rintro e w' ⟨rfl, rfl⟩
    exact ⟨by rw [a]; simp [hlens], Below.refl _ _⟩
  · have e : r.A = some ⟨q, 0, none⟩ := e
    rw [e, ← b]
    refine (heldHistS_to c h0 h1 a).mono ?_
    rintro e' w' ⟨rfl, rfl⟩
    exact ⟨rfl, Below.refl _ _⟩
end
end Go.Proofs.Ytfkaacfeikmabaa

namespace Go.Proofs.Ytfkaacfeikmabaa
open Go.RowKit

section
variable {w : World}
theorem eqRow {r r' : RowD} (h : r.ok w) (h' : r'.ok w) (hn : r.n = r'.n) (hz : r.zs = r'.zs) :
    Calls Try.prog 69 #[.slice r.A r.n r.c, .slice r'.A r'.n r'.c] w fun e w' => e = .returned (.bool true) ∧ Below w.heap.size w w' := by
  have hk := h'.1
  rw [← hn, ← hz] at hk
  rw [← hn]
  exact eqIntSI h.2.1 (Nat.le_trans h.2.2 (by omega)) h.1 hk
theorem eqFiles {r r' : RowsP} (h : r.okF w) (h' : r'.okF w) (hs : SameRows r.rs r'.rs) :
    Calls Try.prog 84 #[.slice r.A r.n r.c, .slice r'.A r'.n r'.c] w fun e w' => e = .returned (.bool true) ∧ Below w.heap.size w w' := by
  obtain ⟨a, b, c, d⟩ := h
  obtain ⟨a', b', c', -⟩ := h'
  have hk := eqFileSI (c := r.c) (c' := r'.c) (by rw [b]; exact c) hs d a a'
  rw [b] at hk
  rw [← b', ← hs.1, b]
  exact hk
theorem eqBufs {r r' : RowsP} (h : r.okB w) (h' : r'.okB w) (hs : SameRows r.rs r'.rs) :
    Calls Try.prog 85 #[.slice r.A r.n r.c, .slice r'.A r'.n r'.c] w fun e w' => e = .returned (.bool true) ∧ Below w.heap.size w w' := by
  obtain ⟨a, b, c, d⟩ := h
  obtain ⟨a', b', c', -⟩ := h'
  have hk := eqBufSI (c := r.c) (c' := r'.c) (by rw [b]; exact c) hs d a a'
  rw [b] at hk
  rw [← b', ← hs.1, b]
  exact hk
theorem HistsI.at_ {r : HistP} (h : HistsI w r) (hb : r.hi ≤ w.heap.size) : HistsAt w (Old w.heap.size) r.A r.hs := by
  rcases h with h | ⟨q, e, h⟩
  · rw [h]; exact ⟨by simp, fun h => by simp at h⟩
  · rw [e]; exact h.at_.more (fun b h => by unfold New at h; unfold Old; omega)
theorem eqHists {r r' : HistP} (h : r.ok w) (h' : r'.ok w) (hb : r.hi ≤ w.heap.size) (hb' : r'.hi ≤ w.heap.size) (hs : r.hs = r'.hs) :
    Calls Try.prog 86 #[.slice r.A r.n r.c, .slice r'.A r'.n r'.c] w fun e w' => e = .returned (.bool true) ∧ Below w.heap.size w w' := by
  obtain ⟨a, b, c⟩ := h
  obtain ⟨a', b', c'⟩ := h'
  have ha := a.at_ hb
  have ha' := a'.at_ hb'
  rw [← hs] at ha'
  have hk := eqHistS_any r.A r'.A r.hs r.c r'.c _ w (fun _ h => h) ha ha'
  rw [b] at hk
  rw [← b', ← hs, b]
  exact hk
end
/-- The same state, elsewhere. -/
structure SameSt (s s' : StD) : Prop where
  kind : s.kind = s'.kind
  pc : s.pc.n = s'.pc.n ∧ s.pc.zs = s'.pc.zs
  F : SameRows s.F.rs s'.F.rs
  mem : s.mem.n = s'.mem.n ∧ s.mem.zs = s'.mem.zs
  bufs : SameRows s.bufs.rs s'.bufs.rs
  H : s.H.hs = s'.H.hs
  view : SameRows s.view.rs s'.view.rs
  sc : s.sc.n = s'.sc.n ∧ s.sc.zs = s'.sc.zs
  next : s.next = s'.next

theorem Blk.nine {w : World} {g : Nat} {t : TypeId} {s : StD} (h : Blk w g t s.cells) :
    w.cell? ⟨g, 1, none⟩ = some (.slice s.pc.A s.pc.n s.pc.c) ∧ w.cell? ⟨g, 2, none⟩ = some (.slice s.F.A s.F.n s.F.c) ∧ w.cell? ⟨g, 3, none⟩ = some (.slice s.mem.A s.mem.n s.mem.c) ∧ w.cell? ⟨g, 4, none⟩ = some (.slice s.bufs.A s.bufs.n s.bufs.c) ∧ w.cell? ⟨g, 5, none⟩ = some (.slice s.H.A s.H.n s.H.c) ∧ w.cell? ⟨g, 6, none⟩ = some (.slice s.view.A s.view.n s.view.c) ∧ w.cell? ⟨g, 7, none⟩ = some (.slice s.sc.A s.sc.n s.sc.c) ∧ w.cell? ⟨g, 0, none⟩ = some (.int .i64 s.kind) ∧ w.cell? ⟨g, 8, none⟩ = some (.int .i64 s.next) :=
  ⟨h.cell 1, h.cell 2, h.cell 3, h.cell 4, h.cell 5, h.cell 6, h.cell 7, h.cell 0, h.cell 8⟩

set_option maxRecDepth 100000 in
set_option maxHeartbeats 3200000 in
theorem markState_to {w : World} {s : StD} {k : Int} (h0 : 0 ≤ k) (h1 : k + stB s ≤ 4194304) (h : StIn w s) :
    Calls Try.prog 30 #[.agg s.cells, .int .i64 k] w fun e w' => e = .returned (.int .i64 (stK7 k s)) ∧ StIn w' (mkSt k s) ∧ ∀ lo hi, (∀ i, i < 7 → lo ≤ (s.iv i).1 ∧ (s.iv i).2 ≤ hi) → Inn lo hi w w' := by
  obtain ⟨l1, l2, l3, l4, l5, l6, l7, l0⟩ := stK_le h0 h1
  have hb0 := below1 w (Obj.cells s.cells 48)
  have H0 := hide (h.next hb0)
  have HB := hide h.bnd
  have B0 := hide (Blk.new w 48 s.cells)
  have I0 : Hid (∀ lo hi, (∀ i, i < 7 → lo ≤ (s.iv i).1 ∧ (s.iv i).2 ≤ hi) → Inn lo hi w (w.alloc (Obj.cells s.cells 48))) := hide (fun _ _ _ => Inn.of_below hb0)
  clear h hb0
  unfold StD.cells at H0 B0 I0 ⊢
  go_enter Try.func30, Try.ntmps30
  go_wp2_with fail
  refine (markRow (r := s.pc) (k := k) H0.out.pc h0 l0).mono ?_
  rintro e w1 ⟨rfl, hr, hi⟩
  have H1 := hide (H0.out.stPc hr hi)
  have B1 := hide (B0.out.inn hi (.inr (HB.out 0 (by omega))))
  have I1 := hide (fun lo hi' hh => (I0.out lo hi' hh).trans (hi.wide (hh 0 (by omega)).1 (hh 0 (by omega)).2))
  obtain ⟨b1, b2, b3, b4, b5, b6, b7, -⟩ := Blk.nine (s := s) B1.out
  clear hr hi
  go_wp2_with fail
  clear b1 b2 b3 b4 b5 b6 b7
  refine (markFiles (r := s.F) (k := (stK1 k s)) H1.out.F l1.1 l1.2).mono ?_
  rintro e w2 ⟨rfl, hr, hi⟩
  have H2 := hide (H1.out.stF hr hi)
  have B2 := hide (B1.out.inn hi (.inr (HB.out 1 (by omega))))
  have I2 := hide (fun lo hi' hh => (I1.out lo hi' hh).trans (hi.wide (hh 1 (by omega)).1 (hh 1 (by omega)).2))
  obtain ⟨b1, b2, b3, b4, b5, b6, b7, -⟩ := Blk.nine (s := s) B2.out
  clear hr hi
  go_wp2_with fail
  clear b1 b2 b3 b4 b5 b6 b7
  refine (markRow (r := s.mem) (k := (stK2 k s)) H2.out.mem l2.1 l2.2).mono ?_
  rintro e w3 ⟨rfl, hr, hi⟩
  have H3 := hide (H2.out.stMem hr hi)
  have B3 := hide (B2.out.inn hi (.inr (HB.out 2 (by omega))))
  have I3 := hide (fun lo hi' hh => (I2.out lo hi' hh).trans (hi.wide (hh 2 (by omega)).1 (hh 2 (by omega)).2))
  obtain ⟨b1, b2, b3, b4, b5, b6, b7, -⟩ := Blk.nine (s := s) B3.out
  clear hr hi
  go_wp2_with fail
  clear b1 b2 b3 b4 b5 b6 b7
  refine (markBufs (r := s.bufs) (k := (stK3 k s)) H3.out.bufs l3.1 l3.2).mono ?_
  rintro e w4 ⟨rfl, hr, hi⟩
  have H4 := hide (H3.out.stBufs hr hi)
  have B4 := hide (B3.out.inn hi (.inr (HB.out 3 (by omega))))
  have I4 := hide (fun lo hi' hh => (I3.out lo hi' hh).trans (hi.wide (hh 3 (by omega)).1 (hh 3 (by omega)).2))
  obtain ⟨b1, b2, b3, b4, b5, b6, b7, -⟩ := Blk.nine (s := s) B4.out
  clear hr hi
  go_wp2_with fail
  clear b1 b2 b3 b4 b5 b6 b7
  refine (markHistsI (r := s.H) (k := (stK4 k s)) H4.out.H l4.1 l4.2).mono ?_
  rintro e w5 ⟨rfl, hr, hi⟩
  have H5 := hide (H4.out.stH hr hi)
  have B5 := hide (B4.out.inn hi (.inr (HB.out 4 (by omega))))
  have I5 := hide (fun lo hi' hh => (I4.out lo hi' hh).trans (hi.wide (hh 4 (by omega)).1 (hh 4 (by omega)).2))
  obtain ⟨b1, b2, b3, b4, b5, b6, b7, -⟩ := Blk.nine (s := s) B5.out
  clear hr hi
  go_wp2_with fail
  clear b1 b2 b3 b4 b5 b6 b7
  refine (markFiles (r := s.view) (k := (stK5 k s)) H5.out.view l5.1 l5.2).mono ?_
  rintro e w6 ⟨rfl, hr, hi⟩
  have H6 := hide (H5.out.stView hr hi)
  have B6 := hide (B5.out.inn hi (.inr (HB.out 5 (by omega))))
  have I6 := hide (fun lo hi' hh => (I5.out lo hi' hh).trans (hi.wide (hh 5 (by omega)).1 (hh 5 (by omega)).2))
  obtain ⟨b1, b2, b3, b4, b5, b6, b7, -⟩ := Blk.nine (s := s) B6.out
  clear hr hi
  go_wp2_with fail
  clear b1 b2 b3 b4 b5 b6 b7
  refine (markRow (r := s.sc) (k := (stK6 k s)) H6.out.sc l6.1 l6.2).mono ?_
  rintro e w7 ⟨rfl, hr, hi⟩
  have H7 := hide (H6.out.stSc hr hi)
  have B7 := hide (B6.out.inn hi (.inr (HB.out 6 (by omega))))
  have I7 := hide (fun lo hi' hh => (I6.out lo hi' hh).trans (hi.wide (hh 6 (by omega)).1 (hh 6 (by omega)).2))
  obtain ⟨b1, b2, b3, b4, b5, b6, b7, -⟩ := Blk.nine (s := s) B7.out
  clear hr hi
  go_wp2_with fail
  go_ret
  exact ⟨rfl, H7.out, I7.out⟩

set_option maxRecDepth 100000 in
set_option maxHeartbeats 3200000 in
theorem heldState_to {w : World} {s : StD} {k : Int} (h0 : 0 ≤ k) (h1 : k + stB s ≤ 4194304) (h : StIn w (mkSt k s)) (hF : ∀ j, j < s.F.rs.length → (getr s.F.rs j).zs.length = (getr s.F.rs j).n ∧ (getr s.F.rs j).n ≤ 1048576) (hBu : ∀ j, j < s.bufs.rs.length → (getr s.bufs.rs j).zs.length = (getr s.bufs.rs j).n * 2 ∧ (getr s.bufs.rs j).n ≤ 1048576) (hV : ∀ j, j < s.view.rs.length → (getr s.view.rs j).zs.length = (getr s.view.rs j).n ∧ (getr s.view.rs j).n ≤ 1048576) :
    Calls Try.prog 31 #[.agg s.cells, .int .i64 k] w fun e w' => e = .returned (.int .i64 (stK7 k s)) ∧ Below w.heap.size w w' := by
  obtain ⟨l1, l2, l3, l4, l5, l6, l7, l0⟩ := stK_le h0 h1
  have hb0 := below1 w (Obj.cells s.cells 48)
  have H0 := hide (h.next hb0)
  have HF := hide hF
  have HU := hide hBu
  have HV := hide hV
  have B0 := hide (Blk.new w 48 s.cells)
  have I0 := hide hb0
  have g1 : ¬ markZ k s.pc.n < 0 := by have : 0 ≤ stK1 k s := l1.1; unfold stK1 at this; omega
  have g2 : ¬ stK1 k s + ((rlens s.F.rs).sum : Nat) < 0 := by omega
  have g3 : ¬ markZ (stK2 k s) s.mem.n < 0 := by have : 0 ≤ stK3 k s := l3.1; unfold stK3 at this; omega
  have g4 : ¬ stK3 k s + ((rlens s.bufs.rs).sum : Nat) < 0 := by omega
  have g5 : ¬ stK4 k s + ((hlens s.H.hs).sum : Nat) < 0 := by omega
  have g6 : ¬ stK5 k s + ((rlens s.view.rs).sum : Nat) < 0 := by omega
  have g7 : ¬ markZ (stK6 k s) s.sc.n < 0 := by have : 0 ≤ stK7 k s := l7; unfold stK7 at this; omega
  clear h hb0 hF hBu hV
  unfold StD.cells at H0 B0 I0 ⊢
  go_enter Try.func31, Try.ntmps31
  go_wp2_with fail
  refine (heldRow (r := s.pc) (k := k) H0.out.pc h0 l0).mono ?_
  rintro e w1 ⟨rfl, hb⟩
  have H1 := hide (H0.out.next hb)
  have B1 := hide (B0.out.below hb B0.out.lt)
  have I1 := hide (below_then I0.out hb)
  obtain ⟨b1, b2, b3, b4, b5, b6, b7, -⟩ := Blk.nine (s := s) B1.out
  clear hb
  go_wp2_with fail
  clear b1 b2 b3 b4 b5 b6 b7
  refine (heldFiles (r := s.F) (k := (stK1 k s)) H1.out.F HF.out l1.1 l1.2).mono ?_
  rintro e w2 ⟨rfl, hb⟩
  have H2 := hide (H1.out.next hb)
  have B2 := hide (B1.out.below hb B1.out.lt)
  have I2 := hide (below_then I1.out hb)
  obtain ⟨b1, b2, b3, b4, b5, b6, b7, -⟩ := Blk.nine (s := s) B2.out
  clear hb
  go_wp2_with fail
  clear b1 b2 b3 b4 b5 b6 b7
  refine (heldRow (r := s.mem) (k := (stK2 k s)) H2.out.mem l2.1 l2.2).mono ?_
  rintro e w3 ⟨rfl, hb⟩
  have H3 := hide (H2.out.next hb)
  have B3 := hide (B2.out.below hb B2.out.lt)
  have I3 := hide (below_then I2.out hb)
  obtain ⟨b1, b2, b3, b4, b5, b6, b7, -⟩ := Blk.nine (s := s) B3.out
  clear hb
  go_wp2_with fail
  clear b1 b2 b3 b4 b5 b6 b7
  refine (heldBufs (r := s.bufs) (k := (stK3 k s)) H3.out.bufs HU.out l3.1 l3.2).mono ?_
  rintro e w4 ⟨rfl, hb⟩
  have H4 := hide (H3.out.next hb)
  have B4 := hide (B3.out.below hb B3.out.lt)
  have I4 := hide (below_then I3.out hb)
  obtain ⟨b1, b2, b3, b4, b5, b6, b7, -⟩ := Blk.nine (s := s) B4.out
  clear hb
  go_wp2_with fail
  clear b1 b2 b3 b4 b5 b6 b7
  refine (heldHistsI (r := s.H) (k := (stK4 k s)) H4.out.H l4.1 l4.2).mono ?_
  rintro e w5 ⟨rfl, hb⟩
  have H5 := hide (H4.out.next hb)
  have B5 := hide (B4.out.below hb B4.out.lt)
  have I5 := hide (below_then I4.out hb)
  obtain ⟨b1, b2, b3, b4, b5, b6, b7, -⟩ := Blk.nine (s := s) B5.out
  clear hb
  go_wp2_with fail
  clear b1 b2 b3 b4 b5 b6 b7
  refine (heldFiles (r := s.view) (k := (stK5 k s)) H5.out.view HV.out l5.1 l5.2).mono ?_
  rintro e w6 ⟨rfl, hb⟩
  have H6 := hide (H5.out.next hb)
  have B6 := hide (B5.out.below hb B5.out.lt)
  have I6 := hide (below_then I5.out hb)
  obtain ⟨b1, b2, b3, b4, b5, b6, b7, -⟩ := Blk.nine (s := s) B6.out
  clear hb
  go_wp2_with fail
  clear b1 b2 b3 b4 b5 b6 b7
  refine (heldRow (r := s.sc) (k := (stK6 k s)) H6.out.sc l6.1 l6.2).mono ?_
  rintro e w7 ⟨rfl, hb⟩
  have H7 := hide (H6.out.next hb)
  have B7 := hide (B6.out.below hb B6.out.lt)
  have I7 := hide (below_then I6.out hb)
  obtain ⟨b1, b2, b3, b4, b5, b6, b7, -⟩ := Blk.nine (s := s) B7.out
  clear hb
  go_wp2_with fail
  go_ret
  exact ⟨rfl, I7.out⟩

set_option maxRecDepth 100000 in
set_option maxHeartbeats 3200000 in
theorem eqState_in {w : World} {s s' : StD} (K N : Int) (hs : SameSt s s') (h : StIn w s) (h' : StIn w s') :
    Calls Try.prog 29 #[.agg #[.int .i64 K, .slice s.pc.A s.pc.n s.pc.c, .slice s.F.A s.F.n s.F.c, .slice s.mem.A s.mem.n s.mem.c, .slice s.bufs.A s.bufs.n s.bufs.c, .slice s.H.A s.H.n s.H.c, .slice s.view.A s.view.n s.view.c, .slice s.sc.A s.sc.n s.sc.c, .int .i64 N], .agg #[.int .i64 K, .slice s'.pc.A s'.pc.n s'.pc.c, .slice s'.F.A s'.F.n s'.F.c, .slice s'.mem.A s'.mem.n s'.mem.c, .slice s'.bufs.A s'.bufs.n s'.bufs.c, .slice s'.H.A s'.H.n s'.H.c, .slice s'.view.A s'.view.n s'.view.c, .slice s'.sc.A s'.sc.n s'.sc.c, .int .i64 N]] w fun e w' => e = .returned (.bool true) ∧ Below w.heap.size w w' := by
  have hb0 := below1 w (Obj.cells #[.int .i64 K, .slice s.pc.A s.pc.n s.pc.c, .slice s.F.A s.F.n s.F.c, .slice s.mem.A s.mem.n s.mem.c, .slice s.bufs.A s.bufs.n s.bufs.c, .slice s.H.A s.H.n s.H.c, .slice s.view.A s.view.n s.view.c, .slice s.sc.A s.sc.n s.sc.c, .int .i64 N] 48)
  have hb1 := below1 (w.alloc (Obj.cells #[.int .i64 K, .slice s.pc.A s.pc.n s.pc.c, .slice s.F.A s.F.n s.F.c, .slice s.mem.A s.mem.n s.mem.c, .slice s.bufs.A s.bufs.n s.bufs.c, .slice s.H.A s.H.n s.H.c, .slice s.view.A s.view.n s.view.c, .slice s.sc.A s.sc.n s.sc.c, .int .i64 N] 48)) (Obj.cells #[.int .i64 K, .slice s'.pc.A s'.pc.n s'.pc.c, .slice s'.F.A s'.F.n s'.F.c, .slice s'.mem.A s'.mem.n s'.mem.c, .slice s'.bufs.A s'.bufs.n s'.bufs.c, .slice s'.H.A s'.H.n s'.H.c, .slice s'.view.A s'.view.n s'.view.c, .slice s'.sc.A s'.sc.n s'.sc.c, .int .i64 N] 48)
  have H0 := hide ((h.next hb0).next hb1)
  have J0 := hide ((h'.next hb0).next hb1)
  have B0 := hide ((Blk.new w 48 #[.int .i64 K, .slice s.pc.A s.pc.n s.pc.c, .slice s.F.A s.F.n s.F.c, .slice s.mem.A s.mem.n s.mem.c, .slice s.bufs.A s.bufs.n s.bufs.c, .slice s.H.A s.H.n s.H.c, .slice s.view.A s.view.n s.view.c, .slice s.sc.A s.sc.n s.sc.c, .int .i64 N]).alloc (Obj.cells #[.int .i64 K, .slice s'.pc.A s'.pc.n s'.pc.c, .slice s'.F.A s'.F.n s'.F.c, .slice s'.mem.A s'.mem.n s'.mem.c, .slice s'.bufs.A s'.bufs.n s'.bufs.c, .slice s'.H.A s'.H.n s'.H.c, .slice s'.view.A s'.view.n s'.view.c, .slice s'.sc.A s'.sc.n s'.sc.c, .int .i64 N] 48))
  have C0 : Hid (Blk ((w.alloc (Obj.cells #[.int .i64 K, .slice s.pc.A s.pc.n s.pc.c, .slice s.F.A s.F.n s.F.c, .slice s.mem.A s.mem.n s.mem.c, .slice s.bufs.A s.bufs.n s.bufs.c, .slice s.H.A s.H.n s.H.c, .slice s.view.A s.view.n s.view.c, .slice s.sc.A s.sc.n s.sc.c, .int .i64 N] 48)).alloc (Obj.cells #[.int .i64 K, .slice s'.pc.A s'.pc.n s'.pc.c, .slice s'.F.A s'.F.n s'.F.c, .slice s'.mem.A s'.mem.n s'.mem.c, .slice s'.bufs.A s'.bufs.n s'.bufs.c, .slice s'.H.A s'.H.n s'.H.c, .slice s'.view.A s'.view.n s'.view.c, .slice s'.sc.A s'.sc.n s'.sc.c, .int .i64 N] 48)) (w.heap.size + 1) 48 #[.int .i64 K, .slice s'.pc.A s'.pc.n s'.pc.c, .slice s'.F.A s'.F.n s'.F.c, .slice s'.mem.A s'.mem.n s'.mem.c, .slice s'.bufs.A s'.bufs.n s'.bufs.c, .slice s'.H.A s'.H.n s'.H.c, .slice s'.view.A s'.view.n s'.view.c, .slice s'.sc.A s'.sc.n s'.sc.c, .int .i64 N]) := hide (by have h := Blk.new (w.alloc (Obj.cells #[.int .i64 K, .slice s.pc.A s.pc.n s.pc.c, .slice s.F.A s.F.n s.F.c, .slice s.mem.A s.mem.n s.mem.c, .slice s.bufs.A s.bufs.n s.bufs.c, .slice s.H.A s.H.n s.H.c, .slice s.view.A s.view.n s.view.c, .slice s.sc.A s.sc.n s.sc.c, .int .i64 N] 48)) 48 #[.int .i64 K, .slice s'.pc.A s'.pc.n s'.pc.c, .slice s'.F.A s'.F.n s'.F.c, .slice s'.mem.A s'.mem.n s'.mem.c, .slice s'.bufs.A s'.bufs.n s'.bufs.c, .slice s'.H.A s'.H.n s'.H.c, .slice s'.view.A s'.view.n s'.view.c, .slice s'.sc.A s'.sc.n s'.sc.c, .int .i64 N]; rwa [World.size_alloc] at h)
  have I0 := hide (below_then hb0 hb1)
  have HS := hide hs
  clear h h' hb0 hb1 hs
  go_enter Try.func29, Try.ntmps29
  go_wp2_with fail
  refine (eqRow (r := s.pc) (r' := s'.pc) H0.out.pc J0.out.pc HS.out.pc.1 HS.out.pc.2).mono ?_
  rintro e w1 ⟨rfl, hb⟩
  have H1 := hide (H0.out.next hb)
  have J1 := hide (J0.out.next hb)
  have B1 := hide (B0.out.below hb B0.out.lt)
  have C1 := hide (C0.out.below hb C0.out.lt)
  have I1 := hide (below_then I0.out hb)
  obtain ⟨b1, b2, b3, b4, b5, b6, b7, b0, b8⟩ := Blk.nine (s := { s with kind := K, next := N }) B1.out
  obtain ⟨c1, c2, c3, c4, c5, c6, c7, c0, c8⟩ := Blk.nine (s := { s' with kind := K, next := N }) C1.out
  clear hb
  go_wp2_with fail
  clear b1 b2 b3 b4 b5 b6 b7 b0 b8 c1 c2 c3 c4 c5 c6 c7 c0 c8
  refine (eqFiles (r := s.F) (r' := s'.F) H1.out.F J1.out.F HS.out.F).mono ?_
  rintro e w2 ⟨rfl, hb⟩
  have H2 := hide (H1.out.next hb)
  have J2 := hide (J1.out.next hb)
  have B2 := hide (B1.out.below hb B1.out.lt)
  have C2 := hide (C1.out.below hb C1.out.lt)
  have I2 := hide (below_then I1.out hb)
  obtain ⟨b1, b2, b3, b4, b5, b6, b7, b0, b8⟩ := Blk.nine (s := { s with kind := K, next := N }) B2.out
  obtain ⟨c1, c2, c3, c4, c5, c6, c7, c0, c8⟩ := Blk.nine (s := { s' with kind := K, next := N }) C2.out
  clear hb
  go_wp2_with fail
  clear b1 b2 b3 b4 b5 b6 b7 b0 b8 c1 c2 c3 c4 c5 c6 c7 c0 c8
  refine (eqRow (r := s.mem) (r' := s'.mem) H2.out.mem J2.out.mem HS.out.mem.1 HS.out.mem.2).mono ?_
  rintro e w3 ⟨rfl, hb⟩
  have H3 := hide (H2.out.next hb)
  have J3 := hide (J2.out.next hb)
  have B3 := hide (B2.out.below hb B2.out.lt)
  have C3 := hide (C2.out.below hb C2.out.lt)
  have I3 := hide (below_then I2.out hb)
  obtain ⟨b1, b2, b3, b4, b5, b6, b7, b0, b8⟩ := Blk.nine (s := { s with kind := K, next := N }) B3.out
  obtain ⟨c1, c2, c3, c4, c5, c6, c7, c0, c8⟩ := Blk.nine (s := { s' with kind := K, next := N }) C3.out
  clear hb
  go_wp2_with fail
  clear b1 b2 b3 b4 b5 b6 b7 b0 b8 c1 c2 c3 c4 c5 c6 c7 c0 c8
  refine (eqBufs (r := s.bufs) (r' := s'.bufs) H3.out.bufs J3.out.bufs HS.out.bufs).mono ?_
  rintro e w4 ⟨rfl, hb⟩
  have H4 := hide (H3.out.next hb)
  have J4 := hide (J3.out.next hb)
  have B4 := hide (B3.out.below hb B3.out.lt)
  have C4 := hide (C3.out.below hb C3.out.lt)
  have I4 := hide (below_then I3.out hb)
  obtain ⟨b1, b2, b3, b4, b5, b6, b7, b0, b8⟩ := Blk.nine (s := { s with kind := K, next := N }) B4.out
  obtain ⟨c1, c2, c3, c4, c5, c6, c7, c0, c8⟩ := Blk.nine (s := { s' with kind := K, next := N }) C4.out
  clear hb
  go_wp2_with fail
  clear b1 b2 b3 b4 b5 b6 b7 b0 b8 c1 c2 c3 c4 c5 c6 c7 c0 c8
  refine (eqHists (r := s.H) (r' := s'.H) H4.out.H J4.out.H (H4.out.bnd 4 (by omega)) (J4.out.bnd 4 (by omega)) HS.out.H).mono ?_
  rintro e w5 ⟨rfl, hb⟩
  have H5 := hide (H4.out.next hb)
  have J5 := hide (J4.out.next hb)
  have B5 := hide (B4.out.below hb B4.out.lt)
  have C5 := hide (C4.out.below hb C4.out.lt)
  have I5 := hide (below_then I4.out hb)
  obtain ⟨b1, b2, b3, b4, b5, b6, b7, b0, b8⟩ := Blk.nine (s := { s with kind := K, next := N }) B5.out
  obtain ⟨c1, c2, c3, c4, c5, c6, c7, c0, c8⟩ := Blk.nine (s := { s' with kind := K, next := N }) C5.out
  clear hb
  go_wp2_with fail
  clear b1 b2 b3 b4 b5 b6 b7 b0 b8 c1 c2 c3 c4 c5 c6 c7 c0 c8
  refine (eqFiles (r := s.view) (r' := s'.view) H5.out.view J5.out.view HS.out.view).mono ?_
  rintro e w6 ⟨rfl, hb⟩
  have H6 := hide (H5.out.next hb)
  have J6 := hide (J5.out.next hb)
  have B6 := hide (B5.out.below hb B5.out.lt)
  have C6 := hide (C5.out.below hb C5.out.lt)
  have I6 := hide (below_then I5.out hb)
  obtain ⟨b1, b2, b3, b4, b5, b6, b7, b0, b8⟩ := Blk.nine (s := { s with kind := K, next := N }) B6.out
  obtain ⟨c1, c2, c3, c4, c5, c6, c7, c0, c8⟩ := Blk.nine (s := { s' with kind := K, next := N }) C6.out
  clear hb
  go_wp2_with fail
  clear b1 b2 b3 b4 b5 b6 b7 b0 b8 c1 c2 c3 c4 c5 c6 c7 c0 c8
  refine (eqRow (r := s.sc) (r' := s'.sc) H6.out.sc J6.out.sc HS.out.sc.1 HS.out.sc.2).mono ?_
  rintro e w7 ⟨rfl, hb⟩
  have H7 := hide (H6.out.next hb)
  have J7 := hide (J6.out.next hb)
  have B7 := hide (B6.out.below hb B6.out.lt)
  have C7 := hide (C6.out.below hb C6.out.lt)
  have I7 := hide (below_then I6.out hb)
  obtain ⟨b1, b2, b3, b4, b5, b6, b7, b0, b8⟩ := Blk.nine (s := { s with kind := K, next := N }) B7.out
  obtain ⟨c1, c2, c3, c4, c5, c6, c7, c0, c8⟩ := Blk.nine (s := { s' with kind := K, next := N }) C7.out
  clear hb
  go_wp2_with fail
  go_ret
  exact ⟨rfl, I7.out⟩
theorem eqState_to {w : World} {s s' : StD} (hs : SameSt s s') (h : StIn w s) (h' : StIn w s') :
    Calls Try.prog 29 #[.agg s.cells, .agg s'.cells] w fun e w' => e = .returned (.bool true) ∧ Below w.heap.size w w' := by
  have hk := eqState_in s.kind s.next hs h h'
  unfold StD.cells
  rw [← hs.kind, ← hs.next]
  exact hk
end Go.Proofs.Ytfkaacfeikmabaa
