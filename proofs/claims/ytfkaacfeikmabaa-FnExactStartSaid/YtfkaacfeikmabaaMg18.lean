/- viewState.viewsOk: any state of views. · When a state of views is right, by its histories alone: the same as by the table. · When a state is one, and when it is done: plain; how a state is read. · laws' size of a row of files, of a row of buffers, of a state. -/
import Derived.Test.YtfkaacfeikmabaaMg10
import Derived.Test.YtfkaacfeikmabaaMg12
import Derived.Test.YtfkaacfeikmabaaMg15
import Derived.Test.YtfkaacfeikmabaaMg17
namespace Go.Proofs.Ytfkaacfeikmabaa
open Go.RowKit

/-- What viewsOk answers. -/
def viewsI (n1 n2 : Nat) (nx : Int) (hs : List (List PostD)) (rs : List RowD) (sc : List Int) : Bool :=
  match foI n1 nx hs with
  | none => false
  | some os => pvsB n1 os hs && (decide (rs.length = n2) && allB (fun k => ownB n1 os (getr rs k).zs) rs.length) && ownB n1 os sc
theorem foI_len {n1 : Nat} {nx : Int} {hs : List (List PostD)} {os : List Int} (h : foI n1 nx hs = some os) : hs.length = n1 := by
  unfold foI at h
  split at h
  · cases h
  · omega
/-- What the last line reads: all in blocks below n. -/
structure VoR (g n : Nat) (cs : Array Value) (A5 A6 A7 O : Option Addr) (hs : List (List PostD)) (rs : List RowD) (sc os : List Int) (w : World) : Prop where
  vs : Blk w g 144 cs
  hi : HistsAt w (Old n) A5 hs
  ri : RowsAt w (Old n) A6 rs
  si : IntsAt w (Old n) A7 sc
  oi : IntsAt w (Old n) O os
  sz : n ≤ w.heap.size
section
variable {w w' : World} {g n : Nat} {cs : Array Value} {A5 A6 A7 O : Option Addr} {hs : List (List PostD)} {rs : List RowD} {sc os : List Int}
theorem VoR.lts (h : VoR g n cs A5 A6 A7 O hs rs sc os w) : ∀ b, Old n b → b < w.heap.size := fun _ k => Nat.lt_of_lt_of_le k h.sz
theorem VoR.next (h : VoR g n cs A5 A6 A7 O hs rs sc os w) (hb : Below w.heap.size w w') : VoR g n cs A5 A6 A7 O hs rs sc os w' :=
  ⟨h.vs.below hb h.vs.lt, h.hi.below hb h.lts, h.ri.below hb h.lts, h.si.below hb h.lts, h.oi.below hb h.lts, Nat.le_trans h.sz hb.size⟩
theorem RowsAt.more {w : World} {S S' : Nat → Prop} {A : Option Addr} {src : List RowD} (h : RowsAt w S A src) (hS : ∀ b, S b → S' b) : RowsAt w S' A src :=
  ⟨h.1, fun hn => by
    obtain ⟨b, off, e, hb, hc⟩ := h.2 hn
    refine ⟨b, off, e, hS b hb, fun k hk => ?_⟩
    obtain ⟨A', c', h1, h2⟩ := hc k hk
    exact ⟨A', c', h1, h2.more hS⟩⟩
end

set_option maxRecDepth 100000 in
set_option maxHeartbeats 12800000 in
theorem viewsOk_any (A1 A2 A3 A4 A5 A6 A7 : Option Addr) (n1 n2 n3 n4 c1 c2 c3 c4 c5 c6 c7 : Nat) (nx : Int) (hs : List (List PostD)) (rs : List RowD) (sc : List Int) (S : Nat → Prop) (w : World) (hS : ∀ b, S b → b < w.heap.size) (hz : ∀ k, k < rs.length → (getr rs k).zs.length = (getr rs k).n) (hh : HistsAt w S A5 hs) (hr : RowsAt w S A6 rs) (hs' : IntsAt w S A7 sc) :
    Calls Try.prog 108 #[.agg #[.slice A1 n1 c1, .slice A2 n2 c2, .slice A3 n3 c3, .slice A4 n4 c4, .slice A5 hs.length c5, .slice A6 rs.length c6, .slice A7 sc.length c7, .int .i64 nx]] w fun e w' => e = .returned (.bool (viewsI n1 n2 nx hs rs sc)) ∧ Below w.heap.size w w' := by
  replace hz := hide hz
  have K0 := hide (Blk.new w 144 #[.slice A1 n1 c1, .slice A2 n2 c2, .slice A3 n3 c3, .slice A4 n4 c4, .slice A5 hs.length c5, .slice A6 rs.length c6, .slice A7 sc.length c7, .int .i64 nx])
  have hb0 := hide (below1 w (Obj.cells #[.slice A1 n1 c1, .slice A2 n2 c2, .slice A3 n3 c3, .slice A4 n4 c4, .slice A5 hs.length c5, .slice A6 rs.length c6, .slice A7 sc.length c7, .int .i64 nx] 144))
  go_enter Try.func108, Try.ntmps108
  go_wp2_with fail
  obtain ⟨wq, hwq⟩ : ∃ wq, wq = w.alloc (Obj.cells #[.slice A1 n1 c1, .slice A2 n2 c2, .slice A3 n3 c3, .slice A4 n4 c4, .slice A5 hs.length c5, .slice A6 rs.length c6, .slice A7 sc.length c7, .int .i64 nx] 144) := ⟨_, rfl⟩
  rw [← hwq] at K0 hb0 ⊢
  have hSq : ∀ b, S b → b < wq.heap.size := fun b h => Nat.lt_of_lt_of_le (hS b h) hb0.out.size
  have hhq := hide (hh.below hb0.out hS)
  have hrq := hide (hr.below hb0.out hS)
  have hsq := hide (hs'.below hb0.out hS)
  clear hwq hh hr hs'
  refine (findOwners_any A1 A2 A3 A4 A5 A6 A7 n1 n2 n3 n4 rs.length sc.length c1 c2 c3 c4 c5 c6 c7 nx hs S wq hSq hhq.out).mono ?_
  rintro e w1 ⟨hcase, hb1⟩
  have B1 := hide (below_then hb0.out hb1)
  have K1 := hide (K0.out.below hb1 K0.out.lt)
  have hhr := hide (hhq.out.below hb1 hSq)
  have hrr := hide (hrq.out.below hb1 hSq)
  have hsr := hide (hsq.out.below hb1 hSq)
  have hz1 := hb1.size
  clear hhq hrq hsq hb0 K0 hb1
  rcases hcase with ⟨hfo, rfl⟩ | ⟨os, q, c, hfo, rfl, ho⟩
  · have hE := hide (show viewsI n1 n2 nx hs rs sc = false from by unfold viewsI; rw [hfo])
    clear hfo
    go_wp2_with fail
    go_ret
    exact ⟨ret_bool hE.out.symm, B1.out⟩
  · have hn1 := hide (foI_len hfo)
    have hE := hide (show viewsI n1 n2 nx hs rs sc = (pvsB n1 os hs && (decide (rs.length = n2) && allB (fun k => ownB n1 os (getr rs k).zs) rs.length) && ownB n1 os sc) from by unfold viewsI; rw [hfo])
    have R0 := hide (show VoR w.heap.size w1.heap.size #[.slice A1 n1 c1, .slice A2 n2 c2, .slice A3 n3 c3, .slice A4 n4 c4, .slice A5 hs.length c5, .slice A6 rs.length c6, .slice A7 sc.length c7, .int .i64 nx] A5 A6 A7 (some ⟨q, 0, none⟩) hs rs sc os w1 from
      ⟨K1.out, hhr.out.more (fun b h => Nat.lt_of_lt_of_le (hSq b h) hz1), hrr.out.more (fun b h => Nat.lt_of_lt_of_le (hSq b h) hz1), hsr.out.more (fun b h => Nat.lt_of_lt_of_le (hSq b h) hz1), ho.more (fun b h => h.2), Nat.le_refl _⟩)
    have hzB := B1.out.size
    clear hfo ho hhr hrr hsr K1
    have hlw := R0.out.vs.lt
    obtain ⟨k0, k1, k2, k3, k4, k5, k6, k7⟩ := vs8 R0.out.vs
    go_wp2_with fail
    refine (postViews_any A1 A2 A3 A4 A5 A6 A7 n1 n2 n3 n4 rs.length sc.length c1 c2 c3 c4 c5 c6 c7 nx _ os c hs _ _ R0.out.lts hn1.out R0.out.hi R0.out.oi).mono ?_
    rintro e w9 ⟨rfl, hb9⟩
    have R1 := hide (R0.out.next hb9)
    have B2 := hide (below_then B1.out hb9)
    clear k0 k1 k2 k3 k4 k5 k6 k7 hb9 R0 B1 hlw hzB
    cases hp : pvsB n1 os hs
    · rw [hp] at hE
      go_wp2_with fail
      go_ret
      exact ⟨ret_bool (by rw [hE.out]; rfl), B2.out⟩
    · have hlw := R1.out.vs.lt
      obtain ⟨k0, k1, k2, k3, k4, k5, k6, k7⟩ := vs8 R1.out.vs
      go_wp2_with fail
      refine (threadViews_any A1 A2 A3 A4 A5 A6 A7 n1 n2 n3 n4 hs.length sc.length c1 c2 c3 c4 c5 c6 c7 nx _ os c rs _ _ R1.out.lts hz.out R1.out.ri R1.out.oi).mono ?_
      rintro e w10 ⟨rfl, hb10⟩
      have R2 := hide (R1.out.next hb10)
      have B3 := hide (below_then B2.out hb10)
      clear k0 k1 k2 k3 k4 k5 k6 k7 hb10 R1 B2 hlw
      obtain ⟨tv, htv⟩ : ∃ tv, tv = (decide (rs.length = n2) && allB (fun k => ownB n1 os (getr rs k).zs) rs.length) := ⟨_, rfl⟩
      rw [← htv] at hE ⊢
      clear htv
      cases tv
      · rw [hp] at hE
        go_wp2_with fail
        go_ret
        exact ⟨ret_bool (by rw [hE.out]; rfl), B3.out⟩
      · have hlw := R2.out.vs.lt
        obtain ⟨k0, k1, k2, k3, k4, k5, k6, k7⟩ := vs8 R2.out.vs
        go_wp2_with fail
        refine (viewOk_any A1 A2 A3 A4 A5 A6 A7 n1 n2 n3 n4 hs.length rs.length sc.length c1 c2 c3 c4 c5 c6 c7 nx A7 _ sc os c7 c _ _ R2.out.lts R2.out.si R2.out.oi).mono ?_
        rintro e w11 ⟨rfl, hb11⟩
        have B4 := hide (below_then B3.out hb11)
        clear k0 k1 k2 k3 k4 k5 k6 k7 hb11 R2 B3 hlw
        go_wp2_with fail
        go_ret
        exact ⟨ret_bool (by rw [hE.out, hp]; rfl), B4.out⟩
end Go.Proofs.Ytfkaacfeikmabaa

namespace Go.Proofs.Ytfkaacfeikmabaa
open Go.RowKit

def viewsB (n1 n2 : Nat) (nx : Int) (hs : List (List PostD)) (rs : List RowD) (sc : List Int) : Bool :=
  (foI n1 nx hs).isSome && (postsB hs && (decide (rs.length = n2) && allB (fun k => viewB hs (getr rs k).zs) rs.length) && viewB hs sc)
theorem foI_all {n1 : Nat} {nx : Int} {hs : List (List PostD)} {os : List Int} (h : foI n1 nx hs = some os) : ownAll nx.toNat hs hs.length = some os := by
  unfold foI at h
  split at h
  · cases h
  · exact h
theorem pvsB_eq {n1 : Nat} {nx : Int} {hs : List (List PostD)} {os : List Int} (h : foI n1 nx hs = some os) : pvsB n1 os hs = postsB hs := by
  obtain rfl := foI_len h
  unfold pvsB postsB
  refine allB_congr (fun x _ => allB_congr (fun k _ => ?_))
  unfold pvB postB
  rw [ownB_view (foI_all h)]
theorem viewsI_eq (n1 n2 : Nat) (nx : Int) (hs : List (List PostD)) (rs : List RowD) (sc : List Int) : viewsI n1 n2 nx hs rs sc = viewsB n1 n2 nx hs rs sc := by
  unfold viewsI viewsB
  cases h : foI n1 nx hs with
  | none => rfl
  | some os =>
    obtain rfl := foI_len h
    have e : ∀ v, ownB hs.length os v = viewB hs v := ownB_view (foI_all h)
    simp only [pvsB_eq h, e, Option.isSome_some, Bool.true_and]
end Go.Proofs.Ytfkaacfeikmabaa

namespace Go.Proofs.Ytfkaacfeikmabaa
open Go.RowKit

def comB (ts : List (List InsD)) (pcs : List Int) (rs : List RowD) : Bool := decide (pcs.length = ts.length) && decide (rs.length = ts.length) && allB (fun k => decide (0 ≤ geti pcs k ∧ geti pcs k ≤ ((gett ts k).length : Int) ∧ (getr rs k).n = 6)) ts.length
def waitsB (cells : Nat) (r : RowD) : Bool := decide (r.n ≤ 4) && allB (fun j => decide (0 ≤ geti r.zs (j * 2) ∧ geti r.zs (j * 2) < (cells : Int))) r.n
def bufsB (cells n2 : Nat) (rs : List RowD) : Bool := decide (rs.length = n2) && allB (fun k => waitsB cells (getr rs k)) rs.length
def noViewsB (s : StD) : Bool := decide (s.H.hs.length = 0) && decide (s.view.rs.length = 0) && decide (s.sc.n = 0) && decide (s.next = 0)
def restB (p : ProgD) (s : StD) : Bool :=
  if s.kind = 0 then decide (s.mem.n = p.init.length) && decide (s.bufs.rs.length = 0) && noViewsB s
  else if s.kind = 1 then decide (s.mem.n = p.init.length) && bufsB p.init.length p.ts.length s.bufs.rs && noViewsB s
  else if s.kind = 2 then decide (s.mem.n = 0) && decide (s.bufs.rs.length = 0) && viewsB p.init.length p.ts.length s.next s.H.hs s.view.rs s.sc.zs
  else false
def stateB (p : ProgD) (s : StD) : Bool := progB p && comB p.ts s.pc.zs s.F.rs && restB p s
def rns (rs : List RowD) : List Nat := rs.map (fun r => r.n)
theorem rns_len (rs : List RowD) : (rns rs).length = rs.length := by simp [rns]
theorem rns_get (rs : List RowD) (k : Nat) : getn (rns rs) k = (getr rs k).n := by
  unfold rns getr getn
  rw [List.getD_eq_getElem?_getD, List.getD_eq_getElem?_getD, List.getElem?_map]
  cases rs[k]? <;> rfl
def doneB (p : ProgD) (s : StD) : Bool := stateB p s && (endedB p.ts s.pc.zs && (if s.kind = 1 then emptyB (rns s.bufs.rs) else true))

theorem comB_same {ts : List (List InsD)} {pcs : List Int} {a b : List RowD} (h : SameRows a b) : comB ts pcs a = comB ts pcs b := by
  unfold comB
  rw [h.1]
  by_cases hl : b.length = ts.length
  · congr 1
    refine allB_congr (fun k hk => ?_)
    rw [(h.2 k (by rw [h.1, hl]; exact hk)).1]
  · simp [hl]
theorem bufsB_same {c m : Nat} {a b : List RowD} (h : SameRows a b) : bufsB c m a = bufsB c m b := by
  unfold bufsB
  rw [h.1]
  congr 1
  refine allB_congr (fun k hk => ?_)
  obtain ⟨e1, e2⟩ := h.2 k (by rw [h.1]; exact hk)
  unfold waitsB
  rw [e1, e2]
theorem viewsB_same {n1 n2 : Nat} {nx : Int} {hs : List (List PostD)} {a b : List RowD} {sc : List Int} (h : SameRows a b) : viewsB n1 n2 nx hs a sc = viewsB n1 n2 nx hs b sc := by
  unfold viewsB
  rw [h.1]
  congr 4
  refine allB_congr (fun k hk => ?_)
  rw [(h.2 k (by rw [h.1]; exact hk)).2]
theorem emptyB_same {a b : List RowD} (h : SameRows a b) : emptyB (rns a) = emptyB (rns b) := by
  unfold emptyB
  rw [rns_len, rns_len, h.1]
  refine allB_congr (fun k hk => ?_)
  rw [rns_get, rns_get, (h.2 k (by rw [h.1]; exact hk)).1]
theorem stateB_same {p : ProgD} {s d : StD} (h : SameSt s d) : stateB p s = stateB p d := by
  unfold stateB restB noViewsB
  rw [comB_same h.F, bufsB_same h.bufs, viewsB_same h.view, h.kind, h.pc.2, h.mem.1, h.H, h.sc.1, h.sc.2, h.next, h.bufs.1, h.view.1]
theorem doneB_same {p : ProgD} {s d : StD} (h : SameSt s d) : doneB p s = doneB p d := by
  unfold doneB
  rw [stateB_same h, emptyB_same h.bufs, h.kind, h.pc.2]

/-- A state as it is read, in blocks below n. -/
structure StAt (w : World) (n : Nat) (s : StD) : Prop where
  pc : IntsAt w (Old n) s.pc.A s.pc.zs
  F : RowsAt w (Old n) s.F.A s.F.rs
  mem : IntsAt w (Old n) s.mem.A s.mem.zs
  bufs : RowsAt w (Old n) s.bufs.A s.bufs.rs
  H : HistsAt w (Old n) s.H.A s.H.hs
  view : RowsAt w (Old n) s.view.A s.view.rs
  sc : IntsAt w (Old n) s.sc.A s.sc.zs
  sz : n ≤ w.heap.size
/-- Its lengths. -/
structure StLen (s : StD) : Prop where
  pc : s.pc.zs.length = s.pc.n
  F : s.F.rs.length = s.F.n
  mem : s.mem.zs.length = s.mem.n
  bufs : s.bufs.rs.length = s.bufs.n
  H : s.H.hs.length = s.H.n
  view : s.view.rs.length = s.view.n
  sc : s.sc.zs.length = s.sc.n
  eF : ∀ k, k < s.F.rs.length → (getr s.F.rs k).zs.length = (getr s.F.rs k).n
  eB : ∀ k, k < s.bufs.rs.length → (getr s.bufs.rs k).zs.length = (getr s.bufs.rs k).n * 2
  eV : ∀ k, k < s.view.rs.length → (getr s.view.rs k).zs.length = (getr s.view.rs k).n
section
variable {w w' : World} {n : Nat} {s : StD}
theorem StAt.lts (h : StAt w n s) : ∀ b, Old n b → b < w.heap.size := fun _ k => Nat.lt_of_lt_of_le k h.sz
theorem StAt.next (h : StAt w n s) (hb : Below w.heap.size w w') : StAt w' n s :=
  ⟨h.pc.below hb h.lts, h.F.below hb h.lts, h.mem.below hb h.lts, h.bufs.below hb h.lts, h.H.below hb h.lts, h.view.below hb h.lts, h.sc.below hb h.lts, Nat.le_trans h.sz hb.size⟩
theorem RowD.ok.at_ {r : RowD} (h : r.ok w) : IntsAt w (Old w.heap.size) r.A r.zs := RvI.src h.1 (by have := h.2.1; have := h.2.2; omega) rfl
theorem RowsI.read {t et : TypeId} {lo hi : Nat} {A : Option Addr} {rs : List RowD} (h : RowsI t et w lo hi A rs) (hn : rs.length ≤ 1048576) (hz : ∀ k, k < rs.length → (getr rs k).zs.length ≤ 9223372036854775807) : RowsAt w (Old w.heap.size) A rs :=
  ⟨hn, fun h0 => by
    obtain ⟨q, e, ho⟩ := h.at_ h0
    obtain ⟨cs, hb, -, hc⟩ := ho.row
    refine ⟨q, 0, e, hb.lt, fun k hk => ?_⟩
    have hr : RvI et w (getr rs k).lo (getr rs k).hi (.slice (getr rs k).A (getr rs k).n (getr rs k).c) (getr rs k).n (getr rs k).zs := ho.each k hk
    have h2 : w.cell? ⟨q, 0 + k, none⟩ = some (.slice (getr rs k).A (getr rs k).n (getr rs k).c) := by rw [Nat.zero_add, hb.cell]; exact hc k hk
    exact ⟨_, _, h2, hr.src (hz k hk) rfl⟩⟩
theorem RowsP.okF.at_ {r : RowsP} (h : r.okF w) : RowsAt w (Old w.heap.size) r.A r.rs := h.1.read (by have := h.2.1; have := h.2.2.1; omega) (fun k hk => by have := h.2.2.2 k hk; omega)
theorem RowsP.okB.at_ {r : RowsP} (h : r.okB w) : RowsAt w (Old w.heap.size) r.A r.rs := h.1.read (by have := h.2.1; have := h.2.2.1; omega) (fun k hk => by have := h.2.2.2 k hk; omega)
theorem StIn.at_ (h : StIn w s) : StAt w w.heap.size s :=
  ⟨h.pc.at_, h.F.at_, h.mem.at_, h.bufs.at_, h.H.1.at_ (h.bnd 4 (by omega)), h.view.at_, h.sc.at_, Nat.le_refl _⟩
theorem StIn.len (h : StIn w s) : StLen s :=
  ⟨h.pc.2.1, h.F.2.1, h.mem.2.1, h.bufs.2.1, h.H.2.1, h.view.2.1, h.sc.2.1, fun k hk => (h.F.2.2.2 k hk).1, fun k hk => (h.bufs.2.2.2 k hk).1, fun k hk => (h.view.2.2.2 k hk).1⟩
end
end Go.Proofs.Ytfkaacfeikmabaa

namespace Go.Proofs.Ytfkaacfeikmabaa
open Go.RowKit
set_option maxHeartbeats 800000 in
theorem szFile_at (A : Option Addr) (n c : Nat) (left : Int) (w : World) (h0 : 0 ≤ left) (h1 : left ≤ 1048576) (hn : n ≤ 9223372036854775807) :
    Calls Try.prog 40 #[.agg #[.slice A n c], .int .i64 left] w fun e w' => e = .returned (.int .i64 (szR left n)) ∧ Below w.heap.size w w' := by
  have ks := fun w => szIntS_any A n c left w (by omega) (by omega) hn
  have hr : szR left n = -1 ∨ 0 ≤ szR left n := by unfold szR; split <;> omega
  generalize szR left n = s at *
  replace ks := hide ks
  rcases hr with rfl | hr
  · go_enter Try.func40, Try.ntmps40
    go_wp2_with fail
    refine (ks.out _).mono ?_
    rintro e w1 ⟨rfl, rfl⟩
    go_wp2_with fail
    go_ret
    exact ⟨rfl, below1 _ _⟩
  · go_enter Try.func40, Try.ntmps40
    go_wp2_with fail
    refine (ks.out _).mono ?_
    rintro e w1 ⟨rfl, rfl⟩
    go_wp2_with fail
    go_ret
    exact ⟨rfl, below1 _ _⟩

set_option maxHeartbeats 800000 in
theorem szWaitS_at (A : Option Addr) (n c : Nat) (left : Int) (w : World) (h0 : 0 ≤ left) (h1 : left ≤ 1048576) (hn : n ≤ 9223372036854775807) :
    Calls Try.prog 190 #[.slice A n c, .int .i64 left] w fun e w' => e = .returned (.int .i64 (szR left n)) ∧ w = w' := by
  have hw : wrap64 (left - n) = left - n := by unfold wrap64; omega
  by_cases hlt : left - n < 0
  · have HF := hide (szR_neg (left := left) (n := n) (by omega))
    go_enter Try.func190, Try.ntmps190
    go_wp2
    go_ret
    exact ⟨ret_int HF.out.symm, rfl⟩
  · have HF := hide (szR_pos (left := left) (n := n) (by omega))
    go_enter Try.func190, Try.ntmps190
    go_wp2
    go_ret
    exact ⟨ret_int HF.out.symm, rfl⟩

set_option maxHeartbeats 800000 in
theorem szBuf_at (A : Option Addr) (n c : Nat) (left : Int) (w : World) (h0 : 0 ≤ left) (h1 : left ≤ 1048576) (hn : n ≤ 9223372036854775807) :
    Calls Try.prog 156 #[.agg #[.slice A n c], .int .i64 left] w fun e w' => e = .returned (.int .i64 (szR left n)) ∧ Below w.heap.size w w' := by
  have ks := fun w => szWaitS_at A n c left w (by omega) (by omega) hn
  have hr : szR left n = -1 ∨ 0 ≤ szR left n := by unfold szR; split <;> omega
  generalize szR left n = s at *
  replace ks := hide ks
  rcases hr with rfl | hr
  · go_enter Try.func156, Try.ntmps156
    go_wp2_with fail
    refine (ks.out _).mono ?_
    rintro e w1 ⟨rfl, rfl⟩
    go_wp2_with fail
    go_ret
    exact ⟨rfl, below1 _ _⟩
  · go_enter Try.func156, Try.ntmps156
    go_wp2_with fail
    refine (ks.out _).mono ?_
    rintro e w1 ⟨rfl, rfl⟩
    go_wp2_with fail
    go_ret
    exact ⟨rfl, below1 _ _⟩

set_option maxHeartbeats 800000 in
theorem szFileS_any (A : Option Addr) (ls : List Nat) (c : Nat) (S : Nat → Prop) (left : Int) (w : World) (h0 : 0 ≤ left) (h1 : left ≤ 1048576) (hS : ∀ b, S b → b < w.heap.size) (ha : HeadsAt w S A ls) :
    Calls Try.prog 93 #[.slice A ls.length c, .int .i64 left] w fun e w' => e = .returned (.int .i64 (szR left (headSize ls))) ∧ Below w.heap.size w w' := by
  have hn := ha.1
  have Hle := hide (fun k => sumTo_le ls k)
  have Hsucc := hide (fun k (hk : k < ls.length) => sumTo_succ ls k hk)
  have Hall := hide (sumTo_all ls)
  have Hz := hide (sumTo_zero ls)
  have Hp := hide (show headSize ls = ls.length + ls.sum from rfl)
  by_cases h : left < ls.length
  · have HF := hide (szR_neg (left := left) (n := headSize ls) (by have := Hp.out; omega))
    go_enter Try.func93, Try.ntmps93
    go_wp2
    go_ret
    exact ⟨ret_int HF.out.symm, Below.refl _ _⟩
  · go_enter Try.func93, Try.ntmps93
    go_wp2
    go_loopw [1, 5] (fun q i wr => ∃ k : Nat, k ≤ ls.length ∧ (sumTo ls k : Int) ≤ left - ls.length ∧ i = .int .i64 k ∧ q = .int .i64 (left - ls.length - sumTo ls k) ∧ Below w.heap.size w wr) (fun _ i _ => ls.length - (intOf i).toNat)
    case atStart => exact ⟨0, Nat.zero_le _, by rw [Hz.out]; omega, rfl, by rw [Hz.out]; simp, Below.refl _ _⟩
    case round =>
      obtain ⟨k, hk, hl, rfl, rfl, hb⟩ := hrel
      by_cases hlt : k < ls.length
      · obtain ⟨b, off, rfl, hbB, hc⟩ := (ha.below hb hS).2 (by omega)
        obtain ⟨A', c', hcell, hcap⟩ := hc k hlt
        have hss := Hsucc.out k hlt
        change _ = _ + getl ls k at hss
        by_cases hx : left - ls.length - sumTo ls k < getl ls k
        · have HF := hide (szR_neg (left := left) (n := headSize ls) (by have := Hle.out (k + 1); have := Hp.out; omega))
          have kc := fun wX => szFile_at A' (getl ls k) c' (left - ls.length - sumTo ls k) wX (by omega) (by omega) hcap
          simp only [szR_neg hx] at kc
          have KC := hide kc
          clear kc hx hss
          go_wp2_with (go_at_call 40; refine (KC.out _).mono ?_; rintro e w1 ⟨rfl, hb1⟩)
          go_ret
          exact ⟨ret_int HF.out.symm, below_then hb hb1⟩
        · have kc := fun wX => szFile_at A' (getl ls k) c' (left - ls.length - sumTo ls k) wX (by omega) (by omega) hcap
          simp only [szR_pos hx] at kc
          have KC := hide kc
          have HX : 0 ≤ left - ls.length - sumTo ls k - getl ls k := by omega
          have HS := hide hss
          clear kc hx hss
          go_wp2_with (go_at_call 40; refine (KC.out _).mono ?_; rintro e w1 ⟨rfl, hb1⟩)
          go_roundw
          case rel => exact ⟨k + 1, by omega, by rw [HS.out]; omega, by go_num, by rw [HS.out]; go_num, below_then hb hb1⟩
          case measure => simp [intOf]; omega
      · obtain rfl : k = ls.length := by omega
        have HF := hide (show szR left (headSize ls) = left - ls.length - sumTo ls ls.length by rw [szR_pos (by have := Hall.out; have := Hp.out; omega)]; have := Hall.out; have := Hp.out; omega)
        go_wp2
        go_ret
        exact ⟨ret_int HF.out.symm, hb⟩

set_option maxHeartbeats 800000 in
theorem szBufS_any (A : Option Addr) (ls : List Nat) (c : Nat) (S : Nat → Prop) (left : Int) (w : World) (h0 : 0 ≤ left) (h1 : left ≤ 1048576) (hS : ∀ b, S b → b < w.heap.size) (ha : HeadsAt w S A ls) :
    Calls Try.prog 94 #[.slice A ls.length c, .int .i64 left] w fun e w' => e = .returned (.int .i64 (szR left (headSize ls))) ∧ Below w.heap.size w w' := by
  have hn := ha.1
  have Hle := hide (fun k => sumTo_le ls k)
  have Hsucc := hide (fun k (hk : k < ls.length) => sumTo_succ ls k hk)
  have Hall := hide (sumTo_all ls)
  have Hz := hide (sumTo_zero ls)
  have Hp := hide (show headSize ls = ls.length + ls.sum from rfl)
  by_cases h : left < ls.length
  · have HF := hide (szR_neg (left := left) (n := headSize ls) (by have := Hp.out; omega))
    go_enter Try.func94, Try.ntmps94
    go_wp2
    go_ret
    exact ⟨ret_int HF.out.symm, Below.refl _ _⟩
  · go_enter Try.func94, Try.ntmps94
    go_wp2
    go_loopw [1, 5] (fun q i wr => ∃ k : Nat, k ≤ ls.length ∧ (sumTo ls k : Int) ≤ left - ls.length ∧ i = .int .i64 k ∧ q = .int .i64 (left - ls.length - sumTo ls k) ∧ Below w.heap.size w wr) (fun _ i _ => ls.length - (intOf i).toNat)
    case atStart => exact ⟨0, Nat.zero_le _, by rw [Hz.out]; omega, rfl, by rw [Hz.out]; simp, Below.refl _ _⟩
    case round =>
      obtain ⟨k, hk, hl, rfl, rfl, hb⟩ := hrel
      by_cases hlt : k < ls.length
      · obtain ⟨b, off, rfl, hbB, hc⟩ := (ha.below hb hS).2 (by omega)
        obtain ⟨A', c', hcell, hcap⟩ := hc k hlt
        have hss := Hsucc.out k hlt
        change _ = _ + getl ls k at hss
        by_cases hx : left - ls.length - sumTo ls k < getl ls k
        · have HF := hide (szR_neg (left := left) (n := headSize ls) (by have := Hle.out (k + 1); have := Hp.out; omega))
          have kc := fun wX => szBuf_at A' (getl ls k) c' (left - ls.length - sumTo ls k) wX (by omega) (by omega) hcap
          simp only [szR_neg hx] at kc
          have KC := hide kc
          clear kc hx hss
          go_wp2_with (go_at_call 156; refine (KC.out _).mono ?_; rintro e w1 ⟨rfl, hb1⟩)
          go_ret
          exact ⟨ret_int HF.out.symm, below_then hb hb1⟩
        · have kc := fun wX => szBuf_at A' (getl ls k) c' (left - ls.length - sumTo ls k) wX (by omega) (by omega) hcap
          simp only [szR_pos hx] at kc
          have KC := hide kc
          have HX : 0 ≤ left - ls.length - sumTo ls k - getl ls k := by omega
          have HS := hide hss
          clear kc hx hss
          go_wp2_with (go_at_call 156; refine (KC.out _).mono ?_; rintro e w1 ⟨rfl, hb1⟩)
          go_roundw
          case rel => exact ⟨k + 1, by omega, by rw [HS.out]; omega, by go_num, by rw [HS.out]; go_num, below_then hb hb1⟩
          case measure => simp [intOf]; omega
      · obtain rfl : k = ls.length := by omega
        have HF := hide (show szR left (headSize ls) = left - ls.length - sumTo ls ls.length by rw [szR_pos (by have := Hall.out; have := Hp.out; omega)]; have := Hall.out; have := Hp.out; omega)
        go_wp2
        go_ret
        exact ⟨ret_int HF.out.symm, hb⟩

set_option maxRecDepth 100000 in
set_option maxHeartbeats 3200000 in
theorem szState_any (A1 A2 A3 A4 A5 A6 A7 : Option Addr) (c1 c2 c3 c4 c5 c6 c7 n1 n3 n7 : Nat) (l2 l4 l6 : List Nat) (hs : List (List PostD)) (kd nx left : Int) (w : World) (h0 : 0 ≤ left) (h1 : left ≤ 1048576) (N1 : n1 ≤ 9223372036854775807) (N3 : n3 ≤ 9223372036854775807) (N7 : n7 ≤ 9223372036854775807) (hF : HeadsAt w (Old w.heap.size) A2 l2) (hB : HeadsAt w (Old w.heap.size) A4 l4) (hH : HistsAt w (Old w.heap.size) A5 hs) (hV : HeadsAt w (Old w.heap.size) A6 l6) :
    Calls Try.prog 32 #[.agg #[.int .i64 kd, .slice A1 n1 c1, .slice A2 l2.length c2, .slice A3 n3 c3, .slice A4 l4.length c4, .slice A5 hs.length c5, .slice A6 l6.length c6, .slice A7 n7 c7, .int .i64 nx], .int .i64 left] w fun e w' => e = .returned (.int .i64 (szR left (n1 + (headSize l2) + n3 + (headSize l4) + (histSize hs) + (headSize l6) + n7))) ∧ Below w.heap.size w w' := by
  have hb0 := below1 w (Obj.cells #[.int .i64 kd, .slice A1 n1 c1, .slice A2 l2.length c2, .slice A3 n3 c3, .slice A4 l4.length c4, .slice A5 hs.length c5, .slice A6 l6.length c6, .slice A7 n7 c7, .int .i64 nx] 58)
  have X0 := hide (Blk.new w 58 #[.int .i64 kd, .slice A1 n1 c1, .slice A2 l2.length c2, .slice A3 n3 c3, .slice A4 l4.length c4, .slice A5 hs.length c5, .slice A6 l6.length c6, .slice A7 n7 c7, .int .i64 nx])
  have B0 := hide hb0
  have HF := hide hF
  have HB := hide hB
  have HH := hide hH
  have HV := hide hV
  have H00 := h0
  have H10 := h1
  clear hb0 hF hB hH hV
  go_enter Try.func32, Try.ntmps32
  go_wp2_with fail
  have kc := szIntS_any A1 n1 c1 left (w.alloc (Obj.cells #[.int .i64 kd, .slice A1 n1 c1, .slice A2 l2.length c2, .slice A3 n3 c3, .slice A4 l4.length c4, .slice A5 hs.length c5, .slice A6 l6.length c6, .slice A7 n7 c7, .int .i64 nx] 58)) H00 H10 N1
  by_cases x0 : left < (n1 : Nat)
  · rw [szR_neg x0] at kc
    refine kc.mono ?_
    rintro e w1 ⟨rfl, hb⟩
    have hf : szR left (n1 + (headSize l2) + n3 + (headSize l4) + (histSize hs) + (headSize l6) + n7) = -1 := szR_neg (by omega)
    have hf := hide hf
    have B1 : Hid (Below w.heap.size w w1) := hide (by subst hb; exact B0.out)
    clear hb kc x0
    go_wp2_with fail
    go_ret
    exact ⟨ret_int hf.out.symm, B1.out⟩
  rw [szR_pos x0] at kc
  refine kc.mono ?_
  rintro e w1 ⟨rfl, hb⟩
  have B1 : Hid (Below w.heap.size w w1) := hide (by subst hb; exact B0.out)
  have X1 : Hid (Blk w1 w.heap.size 58 #[.int .i64 kd, .slice A1 n1 c1, .slice A2 l2.length c2, .slice A3 n3 c3, .slice A4 l4.length c4, .slice A5 hs.length c5, .slice A6 l6.length c6, .slice A7 n7 c7, .int .i64 nx]) := hide (by subst hb; exact X0.out)
  have H01 : 0 ≤ left - (n1 : Nat) := by omega
  have H11 : left - (n1 : Nat) ≤ 1048576 := by omega
  obtain ⟨y1, Y1⟩ : ∃ y : Int, y = left - (n1 : Nat) := ⟨_, rfl⟩
  rw [← Y1] at H01 H11 ⊢
  have b1 := X1.out.cell 1
  have b2 := X1.out.cell 2
  have b3 := X1.out.cell 3
  have b4 := X1.out.cell 4
  have b5 := X1.out.cell 5
  have b6 := X1.out.cell 6
  have b7 := X1.out.cell 7
  clear hb kc
  have Z1 := hide Y1
  have V1 := hide x0
  clear Y1 x0
  go_wp2_with fail
  clear b1 b2 b3 b4 b5 b6 b7
  have kc := szFileS_any A2 l2 c2 (Old w.heap.size) y1 w1 H01 H11 (fun b h => Nat.lt_of_lt_of_le h B1.out.size) (HF.out.below B1.out (fun _ h => h))
  by_cases x1 : y1 < ((headSize l2) : Nat)
  · rw [szR_neg x1] at kc
    refine kc.mono ?_
    rintro e w2 ⟨rfl, hb⟩
    have hf : szR left (n1 + (headSize l2) + n3 + (headSize l4) + (histSize hs) + (headSize l6) + n7) = -1 := szR_neg (by have := Z1.out; have := V1.out; omega)
    have hf := hide hf
    have B2 : Hid (Below w.heap.size w w2) := hide (by exact below_then B1.out hb)
    clear hb kc x1
    go_wp2_with fail
    go_ret
    exact ⟨ret_int hf.out.symm, B2.out⟩
  rw [szR_pos x1] at kc
  refine kc.mono ?_
  rintro e w2 ⟨rfl, hb⟩
  have B2 : Hid (Below w.heap.size w w2) := hide (by exact below_then B1.out hb)
  have X2 : Hid (Blk w2 w.heap.size 58 #[.int .i64 kd, .slice A1 n1 c1, .slice A2 l2.length c2, .slice A3 n3 c3, .slice A4 l4.length c4, .slice A5 hs.length c5, .slice A6 l6.length c6, .slice A7 n7 c7, .int .i64 nx]) := hide (by exact X1.out.below hb X1.out.lt)
  have H02 : 0 ≤ y1 - ((headSize l2) : Nat) := by omega
  have H12 : y1 - ((headSize l2) : Nat) ≤ 1048576 := by omega
  obtain ⟨y2, Y2⟩ : ∃ y : Int, y = y1 - ((headSize l2) : Nat) := ⟨_, rfl⟩
  rw [← Y2] at H02 H12 ⊢
  have b1 := X2.out.cell 1
  have b2 := X2.out.cell 2
  have b3 := X2.out.cell 3
  have b4 := X2.out.cell 4
  have b5 := X2.out.cell 5
  have b6 := X2.out.cell 6
  have b7 := X2.out.cell 7
  clear hb kc
  have Z2 := hide Y2
  have V2 := hide x1
  clear Y2 x1
  go_wp2_with fail
  clear b1 b2 b3 b4 b5 b6 b7
  have kc := szIntS_any A3 n3 c3 y2 w2 H02 H12 N3
  by_cases x2 : y2 < (n3 : Nat)
  · rw [szR_neg x2] at kc
    refine kc.mono ?_
    rintro e w3 ⟨rfl, hb⟩
    have hf : szR left (n1 + (headSize l2) + n3 + (headSize l4) + (histSize hs) + (headSize l6) + n7) = -1 := szR_neg (by have := Z1.out; have := V1.out; have := Z2.out; have := V2.out; omega)
    have hf := hide hf
    have B3 : Hid (Below w.heap.size w w3) := hide (by subst hb; exact B2.out)
    clear hb kc x2
    go_wp2_with fail
    go_ret
    exact ⟨ret_int hf.out.symm, B3.out⟩
  rw [szR_pos x2] at kc
  refine kc.mono ?_
  rintro e w3 ⟨rfl, hb⟩
  have B3 : Hid (Below w.heap.size w w3) := hide (by subst hb; exact B2.out)
  have X3 : Hid (Blk w3 w.heap.size 58 #[.int .i64 kd, .slice A1 n1 c1, .slice A2 l2.length c2, .slice A3 n3 c3, .slice A4 l4.length c4, .slice A5 hs.length c5, .slice A6 l6.length c6, .slice A7 n7 c7, .int .i64 nx]) := hide (by subst hb; exact X2.out)
  have H03 : 0 ≤ y2 - (n3 : Nat) := by omega
  have H13 : y2 - (n3 : Nat) ≤ 1048576 := by omega
  obtain ⟨y3, Y3⟩ : ∃ y : Int, y = y2 - (n3 : Nat) := ⟨_, rfl⟩
  rw [← Y3] at H03 H13 ⊢
  have b1 := X3.out.cell 1
  have b2 := X3.out.cell 2
  have b3 := X3.out.cell 3
  have b4 := X3.out.cell 4
  have b5 := X3.out.cell 5
  have b6 := X3.out.cell 6
  have b7 := X3.out.cell 7
  clear hb kc
  have Z3 := hide Y3
  have V3 := hide x2
  clear Y3 x2
  go_wp2_with fail
  clear b1 b2 b3 b4 b5 b6 b7
  have kc := szBufS_any A4 l4 c4 (Old w.heap.size) y3 w3 H03 H13 (fun b h => Nat.lt_of_lt_of_le h B3.out.size) (HB.out.below B3.out (fun _ h => h))
  by_cases x3 : y3 < ((headSize l4) : Nat)
  · rw [szR_neg x3] at kc
    refine kc.mono ?_
    rintro e w4 ⟨rfl, hb⟩
    have hf : szR left (n1 + (headSize l2) + n3 + (headSize l4) + (histSize hs) + (headSize l6) + n7) = -1 := szR_neg (by have := Z1.out; have := V1.out; have := Z2.out; have := V2.out; have := Z3.out; have := V3.out; omega)
    have hf := hide hf
    have B4 : Hid (Below w.heap.size w w4) := hide (by exact below_then B3.out hb)
    clear hb kc x3
    go_wp2_with fail
    go_ret
    exact ⟨ret_int hf.out.symm, B4.out⟩
  rw [szR_pos x3] at kc
  refine kc.mono ?_
  rintro e w4 ⟨rfl, hb⟩
  have B4 : Hid (Below w.heap.size w w4) := hide (by exact below_then B3.out hb)
  have X4 : Hid (Blk w4 w.heap.size 58 #[.int .i64 kd, .slice A1 n1 c1, .slice A2 l2.length c2, .slice A3 n3 c3, .slice A4 l4.length c4, .slice A5 hs.length c5, .slice A6 l6.length c6, .slice A7 n7 c7, .int .i64 nx]) := hide (by exact X3.out.below hb X3.out.lt)
  have H04 : 0 ≤ y3 - ((headSize l4) : Nat) := by omega
  have H14 : y3 - ((headSize l4) : Nat) ≤ 1048576 := by omega
  obtain ⟨y4, Y4⟩ : ∃ y : Int, y = y3 - ((headSize l4) : Nat) := ⟨_, rfl⟩
  rw [← Y4] at H04 H14 ⊢
  have b1 := X4.out.cell 1
  have b2 := X4.out.cell 2
  have b3 := X4.out.cell 3
  have b4 := X4.out.cell 4
  have b5 := X4.out.cell 5
  have b6 := X4.out.cell 6
  have b7 := X4.out.cell 7
  clear hb kc
  have Z4 := hide Y4
  have V4 := hide x3
  clear Y4 x3
  go_wp2_with fail
  clear b1 b2 b3 b4 b5 b6 b7
  have kc := szHistS_any A5 hs c5 (Old w.heap.size) y4 w4 H04 H14 (fun b h => Nat.lt_of_lt_of_le h B4.out.size) (HH.out.below B4.out (fun _ h => h))
  by_cases x4 : y4 < ((histSize hs) : Nat)
  · rw [szR_neg x4] at kc
    refine kc.mono ?_
    rintro e w5 ⟨rfl, hb⟩
    have hf : szR left (n1 + (headSize l2) + n3 + (headSize l4) + (histSize hs) + (headSize l6) + n7) = -1 := szR_neg (by have := Z1.out; have := V1.out; have := Z2.out; have := V2.out; have := Z3.out; have := V3.out; have := Z4.out; have := V4.out; omega)
    have hf := hide hf
    have B5 : Hid (Below w.heap.size w w5) := hide (by exact below_then B4.out hb)
    clear hb kc x4
    go_wp2_with fail
    go_ret
    exact ⟨ret_int hf.out.symm, B5.out⟩
  rw [szR_pos x4] at kc
  refine kc.mono ?_
  rintro e w5 ⟨rfl, hb⟩
  have B5 : Hid (Below w.heap.size w w5) := hide (by exact below_then B4.out hb)
  have X5 : Hid (Blk w5 w.heap.size 58 #[.int .i64 kd, .slice A1 n1 c1, .slice A2 l2.length c2, .slice A3 n3 c3, .slice A4 l4.length c4, .slice A5 hs.length c5, .slice A6 l6.length c6, .slice A7 n7 c7, .int .i64 nx]) := hide (by exact X4.out.below hb X4.out.lt)
  have H05 : 0 ≤ y4 - ((histSize hs) : Nat) := by omega
  have H15 : y4 - ((histSize hs) : Nat) ≤ 1048576 := by omega
  obtain ⟨y5, Y5⟩ : ∃ y : Int, y = y4 - ((histSize hs) : Nat) := ⟨_, rfl⟩
  rw [← Y5] at H05 H15 ⊢
  have b1 := X5.out.cell 1
  have b2 := X5.out.cell 2
  have b3 := X5.out.cell 3
  have b4 := X5.out.cell 4
  have b5 := X5.out.cell 5
  have b6 := X5.out.cell 6
  have b7 := X5.out.cell 7
  clear hb kc
  have Z5 := hide Y5
  have V5 := hide x4
  clear Y5 x4
  go_wp2_with fail
  clear b1 b2 b3 b4 b5 b6 b7
  have kc := szFileS_any A6 l6 c6 (Old w.heap.size) y5 w5 H05 H15 (fun b h => Nat.lt_of_lt_of_le h B5.out.size) (HV.out.below B5.out (fun _ h => h))
  by_cases x5 : y5 < ((headSize l6) : Nat)
  · rw [szR_neg x5] at kc
    refine kc.mono ?_
    rintro e w6 ⟨rfl, hb⟩
    have hf : szR left (n1 + (headSize l2) + n3 + (headSize l4) + (histSize hs) + (headSize l6) + n7) = -1 := szR_neg (by have := Z1.out; have := V1.out; have := Z2.out; have := V2.out; have := Z3.out; have := V3.out; have := Z4.out; have := V4.out; have := Z5.out; have := V5.out; omega)
    have hf := hide hf
    have B6 : Hid (Below w.heap.size w w6) := hide (by exact below_then B5.out hb)
    clear hb kc x5
    go_wp2_with fail
    go_ret
    exact ⟨ret_int hf.out.symm, B6.out⟩
  rw [szR_pos x5] at kc
  refine kc.mono ?_
  rintro e w6 ⟨rfl, hb⟩
  have B6 : Hid (Below w.heap.size w w6) := hide (by exact below_then B5.out hb)
  have X6 : Hid (Blk w6 w.heap.size 58 #[.int .i64 kd, .slice A1 n1 c1, .slice A2 l2.length c2, .slice A3 n3 c3, .slice A4 l4.length c4, .slice A5 hs.length c5, .slice A6 l6.length c6, .slice A7 n7 c7, .int .i64 nx]) := hide (by exact X5.out.below hb X5.out.lt)
  have H06 : 0 ≤ y5 - ((headSize l6) : Nat) := by omega
  have H16 : y5 - ((headSize l6) : Nat) ≤ 1048576 := by omega
  obtain ⟨y6, Y6⟩ : ∃ y : Int, y = y5 - ((headSize l6) : Nat) := ⟨_, rfl⟩
  rw [← Y6] at H06 H16 ⊢
  have b1 := X6.out.cell 1
  have b2 := X6.out.cell 2
  have b3 := X6.out.cell 3
  have b4 := X6.out.cell 4
  have b5 := X6.out.cell 5
  have b6 := X6.out.cell 6
  have b7 := X6.out.cell 7
  clear hb kc
  have Z6 := hide Y6
  have V6 := hide x5
  clear Y6 x5
  go_wp2_with fail
  clear b1 b2 b3 b4 b5 b6 b7
  have kc := szIntS_any A7 n7 c7 y6 w6 H06 H16 N7
  by_cases x6 : y6 < (n7 : Nat)
  · rw [szR_neg x6] at kc
    refine kc.mono ?_
    rintro e w7 ⟨rfl, hb⟩
    have hf : szR left (n1 + (headSize l2) + n3 + (headSize l4) + (histSize hs) + (headSize l6) + n7) = -1 := szR_neg (by have := Z1.out; have := V1.out; have := Z2.out; have := V2.out; have := Z3.out; have := V3.out; have := Z4.out; have := V4.out; have := Z5.out; have := V5.out; have := Z6.out; have := V6.out; omega)
    have hf := hide hf
    have B7 : Hid (Below w.heap.size w w7) := hide (by subst hb; exact B6.out)
    clear hb kc x6
    go_wp2_with fail
    go_ret
    exact ⟨ret_int hf.out.symm, B7.out⟩
  rw [szR_pos x6] at kc
  refine kc.mono ?_
  rintro e w7 ⟨rfl, hb⟩
  have B7 : Hid (Below w.heap.size w w7) := hide (by subst hb; exact B6.out)
  have X7 : Hid (Blk w7 w.heap.size 58 #[.int .i64 kd, .slice A1 n1 c1, .slice A2 l2.length c2, .slice A3 n3 c3, .slice A4 l4.length c4, .slice A5 hs.length c5, .slice A6 l6.length c6, .slice A7 n7 c7, .int .i64 nx]) := hide (by subst hb; exact X6.out)
  have H07 : 0 ≤ y6 - (n7 : Nat) := by omega
  have H17 : y6 - (n7 : Nat) ≤ 1048576 := by omega
  obtain ⟨y7, Y7⟩ : ∃ y : Int, y = y6 - (n7 : Nat) := ⟨_, rfl⟩
  rw [← Y7] at H07 H17 ⊢
  have b1 := X7.out.cell 1
  have b2 := X7.out.cell 2
  have b3 := X7.out.cell 3
  have b4 := X7.out.cell 4
  have b5 := X7.out.cell 5
  have b6 := X7.out.cell 6
  have b7 := X7.out.cell 7
  clear hb kc
  have Z7 := hide Y7
  have V7 := hide x6
  clear Y7 x6
  go_wp2_with fail
  go_ret
  have hf : szR left (n1 + (headSize l2) + n3 + (headSize l4) + (histSize hs) + (headSize l6) + n7) = y7 := by
    have := Z1.out; have := Z2.out; have := Z3.out; have := Z4.out; have := Z5.out; have := Z6.out; have := Z7.out
    rw [szR_pos (by omega)]; omega
  exact ⟨ret_int hf.symm, B7.out⟩
end Go.Proofs.Ytfkaacfeikmabaa
