/- When a state is one, and when it is done: plain; how a state is read. -/
import Derived.Test.YtikfbhehnpogoaaStG
import Derived.Test.YtikfbhehnpogoaaStE
namespace Go.Proofs.Ytikfbhehnpogoaa
open Go.RowKit

def comB (ts : List (List InsD)) (pcs : List Int) (rs : List RowD) : Bool := decide (pcs.length = ts.length) && decide (rs.length = ts.length) && allB (fun k => decide (0 ≤ geti pcs k ∧ geti pcs k ≤ ((gett ts k).length : Int) ∧ (getr rs k).n = 6)) ts.length
def waitsB (cells : Nat) (r : RowD) : Bool := decide (r.n ≤ 4) && allB (fun j => decide (0 ≤ geti r.zs (j * 2) ∧ geti r.zs (j * 2) < (cells : Int))) r.n
def bufsB (cells n2 : Nat) (rs : List RowD) : Bool := decide (rs.length = n2) && allB (fun k => waitsB cells (getr rs k)) rs.length
def noViewsB (s : StD) : Bool := decide (s.H.hs.length = 0) && decide (s.view.rs.length = 0) && decide (s.sc.n = 0) && decide (s.next = 0)
def restB (p : ProgD) (s : StD) : Bool :=
  if s.kind = 0 then decide (s.mem.n = p.init.length) && decide (s.bufs.rs.length = 0) && noViewsB s
  else if s.kind = 1 then decide (s.mem.n = p.init.length) && bufsB p.init.length p.ts.length s.bufs.rs && noViewsB s
  else if s.kind = 2 then decide (s.mem.n = 0) && decide (s.bufs.rs.length = 0) && viewsB p.init.length p.ts.length s.next s.H.hs s.view.rs s.sc.zs
  else false
def stateB (p : ProgD) (s : StD) : Bool := progB p && comB p.ts s.pc.zs s.F.rs && restB p s
def rns (rs : List RowD) : List Nat := rs.map (fun r => r.n)
theorem rns_len (rs : List RowD) : (rns rs).length = rs.length := by simp [rns]
theorem rns_get (rs : List RowD) (k : Nat) : getn (rns rs) k = (getr rs k).n := by
  unfold rns getr getn
  rw [List.getD_eq_getElem?_getD, List.getD_eq_getElem?_getD, List.getElem?_map]
  cases rs[k]? <;> rfl
def doneB (p : ProgD) (s : StD) : Bool := stateB p s && (endedB p.ts s.pc.zs && (if s.kind = 1 then emptyB (rns s.bufs.rs) else true))

theorem comB_same {ts : List (List InsD)} {pcs : List Int} {a b : List RowD} (h : SameRows a b) : comB ts pcs a = comB ts pcs b := by
  unfold comB
  rw [h.1]
  by_cases hl : b.length = ts.length
  · congr 1
    refine allB_congr (fun k hk => ?_)
    rw [(h.2 k (by rw [h.1, hl]; exact hk)).1]
  · simp [hl]
theorem bufsB_same {c m : Nat} {a b : List RowD} (h : SameRows a b) : bufsB c m a = bufsB c m b := by
  unfold bufsB
  rw [h.1]
  congr 1
  refine allB_congr (fun k hk => ?_)
  obtain ⟨e1, e2⟩ := h.2 k (by rw [h.1]; exact hk)
  unfold waitsB
  rw [e1, e2]
theorem viewsB_same {n1 n2 : Nat} {nx : Int} {hs : List (List PostD)} {a b : List RowD} {sc : List Int} (h : SameRows a b) : viewsB n1 n2 nx hs a sc = viewsB n1 n2 nx hs b sc := by
  unfold viewsB
  rw [h.1]
  congr 4
  refine allB_congr (fun k hk => ?_)
  rw [(h.2 k (by rw [h.1]; exact hk)).2]
theorem emptyB_same {a b : List RowD} (h : SameRows a b) : emptyB (rns a) = emptyB (rns b) := by
  unfold emptyB
  rw [rns_len, rns_len, h.1]
  refine allB_congr (fun k hk => ?_)
  rw [rns_get, rns_get, (h.2 k (by rw [h.1]; exact hk)).1]
theorem stateB_same {p : ProgD} {s d : StD} (h : SameSt s d) : stateB p s = stateB p d := by
  unfold stateB restB noViewsB
  rw [comB_same h.F, bufsB_same h.bufs, viewsB_same h.view, h.kind, h.pc.2, h.mem.1, h.H, h.sc.1, h.sc.2, h.next, h.bufs.1, h.view.1]
theorem doneB_same {p : ProgD} {s d : StD} (h : SameSt s d) : doneB p s = doneB p d := by
  unfold doneB
  rw [stateB_same h, emptyB_same h.bufs, h.kind, h.pc.2]

/-- A state as it is read, in blocks below n. -/
structure StAt (w : World) (n : Nat) (s : StD) : Prop where
  pc : IntsAt w (Old n) s.pc.A s.pc.zs
  F : RowsAt w (Old n) s.F.A s.F.rs
  mem : IntsAt w (Old n) s.mem.A s.mem.zs
  bufs : RowsAt w (Old n) s.bufs.A s.bufs.rs
  H : HistsAt w (Old n) s.H.A s.H.hs
  view : RowsAt w (Old n) s.view.A s.view.rs
  sc : IntsAt w (Old n) s.sc.A s.sc.zs
  sz : n ≤ w.heap.size
/-- Its lengths. -/
structure StLen (s : StD) : Prop where
  pc : s.pc.zs.length = s.pc.n
  F : s.F.rs.length = s.F.n
  mem : s.mem.zs.length = s.mem.n
  bufs : s.bufs.rs.length = s.bufs.n
  H : s.H.hs.length = s.H.n
  view : s.view.rs.length = s.view.n
  sc : s.sc.zs.length = s.sc.n
  eF : ∀ k, k < s.F.rs.length → (getr s.F.rs k).zs.length = (getr s.F.rs k).n
  eB : ∀ k, k < s.bufs.rs.length → (getr s.bufs.rs k).zs.length = (getr s.bufs.rs k).n * 2
  eV : ∀ k, k < s.view.rs.length → (getr s.view.rs k).zs.length = (getr s.view.rs k).n
section
variable {w w' : World} {n : Nat} {s : StD}
theorem StAt.lts (h : StAt w n s) : ∀ b, Old n b → b < w.heap.size := fun _ k => Nat.lt_of_lt_of_le k h.sz
theorem StAt.next (h : StAt w n s) (hb : Below w.heap.size w w') : StAt w' n s :=
  ⟨h.pc.below hb h.lts, h.F.below hb h.lts, h.mem.below hb h.lts, h.bufs.below hb h.lts, h.H.below hb h.lts, h.view.below hb h.lts, h.sc.below hb h.lts, Nat.le_trans h.sz hb.size⟩
theorem RowD.ok.at_ {r : RowD} (h : r.ok w) : IntsAt w (Old w.heap.size) r.A r.zs := RvI.src h.1 (by have := h.2.1; have := h.2.2; omega) rfl
theorem RowsI.read {t et : TypeId} {lo hi : Nat} {A : Option Addr} {rs : List RowD} (h : RowsI t et w lo hi A rs) (hn : rs.length ≤ 1048576) (hz : ∀ k, k < rs.length → (getr rs k).zs.length ≤ 9223372036854775807) : RowsAt w (Old w.heap.size) A rs :=
  ⟨hn, fun h0 => by
    obtain ⟨q, e, ho⟩ := h.at_ h0
    obtain ⟨cs, hb, -, hc⟩ := ho.row
    refine ⟨q, 0, e, hb.lt, fun k hk => ?_⟩
    have hr : RvI et w (getr rs k).lo (getr rs k).hi (.slice (getr rs k).A (getr rs k).n (getr rs k).c) (getr rs k).n (getr rs k).zs := ho.each k hk
    have h2 : w.cell? ⟨q, 0 + k, none⟩ = some (.slice (getr rs k).A (getr rs k).n (getr rs k).c) := by rw [Nat.zero_add, hb.cell]; exact hc k hk
    exact ⟨_, _, h2, hr.src (hz k hk) rfl⟩⟩
theorem RowsP.okF.at_ {r : RowsP} (h : r.okF w) : RowsAt w (Old w.heap.size) r.A r.rs := h.1.read (by have := h.2.1; have := h.2.2.1; omega) (fun k hk => by have := h.2.2.2 k hk; omega)
theorem RowsP.okB.at_ {r : RowsP} (h : r.okB w) : RowsAt w (Old w.heap.size) r.A r.rs := h.1.read (by have := h.2.1; have := h.2.2.1; omega) (fun k hk => by have := h.2.2.2 k hk; omega)
theorem StIn.at_ (h : StIn w s) : StAt w w.heap.size s :=
  ⟨h.pc.at_, h.F.at_, h.mem.at_, h.bufs.at_, h.H.1.at_ (h.bnd 4 (by omega)), h.view.at_, h.sc.at_, Nat.le_refl _⟩
theorem StIn.len (h : StIn w s) : StLen s :=
  ⟨h.pc.2.1, h.F.2.1, h.mem.2.1, h.bufs.2.1, h.H.2.1, h.view.2.1, h.sc.2.1, fun k hk => (h.F.2.2.2 k hk).1, fun k hk => (h.bufs.2.2.2 k hk).1, fun k hk => (h.view.2.2.2 k hk).1⟩
end
end Go.Proofs.Ytikfbhehnpogoaa
