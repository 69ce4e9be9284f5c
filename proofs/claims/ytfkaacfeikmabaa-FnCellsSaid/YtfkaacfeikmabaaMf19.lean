/- kindOf of any state; whether a state has no memory, no buffers, no views. -/
import Derived.Test.YtfkaacfeikmabaaMf0
import Derived.Test.YtfkaacfeikmabaaMf11
import Derived.Test.YtfkaacfeikmabaaMf18
namespace Go.Proofs.Ytfkaacfeikmabaa
open Go.RowKit

def viewsI (n1 n2 : Nat) (nx : Int) (hs : List (List PostD)) (rs : List RowD) (sc : List Int) : Bool :=
  match foI n1 nx hs with
  | none => false
  | some os => pvsB n1 os hs && (decide (rs.length = n2) && allB (fun k => ownB n1 os (getr rs k).zs) rs.length) && ownB n1 os sc
theorem foI_len {n1 : Nat} {nx : Int} {hs : List (List PostD)} {os : List Int} (h : foI n1 nx hs = some os) : hs.length = n1 := by
  unfold foI at h
  split at h
  · cases h
  · omega
structure VoR (g n : Nat) (cs : Array Value) (A5 A6 A7 O : Option Addr) (hs : List (List PostD)) (rs : List RowD) (sc os : List Int) (w : World) : Prop where
  vs : Blk w g 144 cs
  hi : HistsAt w (Old n) A5 hs
  ri : RowsAt w (Old n) A6 rs
  si : IntsAt w (Old n) A7 sc
  oi : IntsAt w (Old n) O os
  sz : n ≤ w.heap.size
section
variable {w w' : World} {g n : Nat} {cs : Array Value} {A5 A6 A7 O : Option Addr} {hs : List (List PostD)} {rs : List RowD} {sc os : List Int}
theorem VoR.lts (h : VoR g n cs A5 A6 A7 O hs rs sc os w) : ∀ b, Old n b → b < w.heap.size := fun _ k => Nat.lt_of_lt_of_le k h.sz
theorem VoR.next (h : VoR g n cs A5 A6 A7 O hs rs sc os w) (hb : Below w.heap.size w w') : VoR g n cs A5 A6 A7 O hs rs sc os w' :=
  ⟨h.vs.below hb h.vs.lt, h.hi.below hb h.lts, h.ri.below hb h.lts, h.si.below hb h.lts, h.oi.below hb h.lts, Nat.le_trans h.sz hb.size⟩
theorem RowsAt.more {w : World} {S S' : Nat → Prop} {A : Option Addr} {src : List RowD} (h : RowsAt w S A src) (hS : ∀ b, S b → S' b) : RowsAt w S' A src :=
  ⟨h.1, fun hn => by
    obtain ⟨b, off, e, hb, hc⟩ := h.2 hn
    refine ⟨b, off, e, hS b hb, fun k hk => ?_⟩
    obtain ⟨A', c', h1, h2⟩ := hc k hk
    exact ⟨A', c', h1, h2.more hS⟩⟩
end

set_option maxRecDepth 100000 in
set_option maxHeartbeats 12800000 in
theorem viewsOk_any (A1 A2 A3 A4 A5 A6 A7 : Option Addr) (n1 n2 n3 n4 c1 c2 c3 c4 c5 c6 c7 : Nat) (nx : Int) (hs : List (List PostD)) (rs : List RowD) (sc : List Int) (S : Nat → Prop) (w : World) (hS : ∀ b, S b → b < w.heap.size) (hz : ∀ k, k < rs.length → (getr rs k).zs.length = (getr rs k).n) (hh : HistsAt w S A5 hs) (hr : RowsAt w S A6 rs) (hs' : IntsAt w S A7 sc) :
    Calls Try.prog 108 #[.agg #[.slice A1 n1 c1, .slice A2 n2 c2, .slice A3 n3 c3, .slice A4 n4 c4, .slice A5 hs.length c5, .slice A6 rs.length c6, .slice A7 sc.length c7, .int .i64 nx]] w fun e w' => e = .returned (.bool (viewsI n1 n2 nx hs rs sc)) ∧ Below w.heap.size w w' := by
  replace hz := hide hz
  have K0 := hide (Blk.new w 144 #[.slice A1 n1 c1, .slice A2 n2 c2, .slice A3 n3 c3, .slice A4 n4 c4, .slice A5 hs.length c5, .slice A6 rs.length c6, .slice A7 sc.length c7, .int .i64 nx])
  have hb0 := hide (below1 w (Obj.cells #[.slice A1 n1 c1, .slice A2 n2 c2, .slice A3 n3 c3, .slice A4 n4 c4, .slice A5 hs.length c5, .slice A6 rs.length c6, .slice A7 sc.length c7, .int .i64 nx] 144))
  go_enter Try.func108, Try.ntmps108
  go_wp2_with fail
  obtain ⟨wq, hwq⟩ : ∃ wq, wq = w.alloc (Obj.cells #[.slice A1 n1 c1, .slice A2 n2 c2, .slice A3 n3 c3, .slice A4 n4 c4, .slice A5 hs.length c5, .slice A6 rs.length c6, .slice A7 sc.length c7, .int .i64 nx] 144) := ⟨_, rfl⟩
  rw [← hwq] at K0 hb0 ⊢
  have hSq : ∀ b, S b → b < wq.heap.size := fun b h => Nat.lt_of_lt_of_le (hS b h) hb0.out.size
  have hhq := hide (hh.below hb0.out hS)
  have hrq := hide (hr.below hb0.out hS)
  have hsq := hide (hs'.below hb0.out hS)
  clear hwq hh hr hs'
  refine (findOwners_any A1 A2 A3 A4 A5 A6 A7 n1 n2 n3 n4 rs.length sc.length c1 c2 c3 c4 c5 c6 c7 nx hs S wq hSq hhq.out).mono ?_
  rintro e w1 ⟨hcase, hb1⟩
  have B1 := hide (below_then hb0.out hb1)
  have K1 := hide (K0.out.below hb1 K0.out.lt)
  have hhr := hide (hhq.out.below hb1 hSq)
  have hrr := hide (hrq.out.below hb1 hSq)
  have hsr := hide (hsq.out.below hb1 hSq)
  have hz1 := hb1.size
  clear hhq hrq hsq hb0 K0 hb1
  rcases hcase with ⟨hfo, rfl⟩ | ⟨os, q, c, hfo, rfl, ho⟩
  · have hE := hide (show viewsI n1 n2 nx hs rs sc = false from by unfold viewsI; rw [hfo])
    clear hfo
    go_wp2_with fail
    go_ret
    exact ⟨ret_bool hE.out.symm, B1.out⟩
  · have hn1 := hide (foI_len hfo)
    have hE := hide (show viewsI n1 n2 nx hs rs sc = (pvsB n1 os hs && (decide (rs.length = n2) && allB (fun k => ownB n1 os (getr rs k).zs) rs.length) && ownB n1 os sc) from by unfold viewsI; rw [hfo])
    have R0 := hide (show VoR w.heap.size w1.heap.size #[.slice A1 n1 c1, .slice A2 n2 c2, .slice A3 n3 c3, .slice A4 n4 c4, .slice A5 hs.length c5, .slice A6 rs.length c6, .slice A7 sc.length c7, .int .i64 nx] A5 A6 A7 (some ⟨q, 0, none⟩) hs rs sc os w1 from
      ⟨K1.out, hhr.out.more (fun b h => Nat.lt_of_lt_of_le (hSq b h) hz1), hrr.out.more (fun b h => Nat.lt_of_lt_of_le (hSq b h) hz1), hsr.out.more (fun b h => Nat.lt_of_lt_of_le (hSq b h) hz1), ho.more (fun b h => h.2), Nat.le_refl _⟩)
    have hzB := B1.out.size
    clear hfo ho hhr hrr hsr K1
    have hlw := R0.out.vs.lt
    obtain ⟨k0, k1, k2, k3, k4, k5, k6, k7⟩ := vs8 R0.out.vs
    go_wp2_with fail
    refine (postViews_any A1 A2 A3 A4 A5 A6 A7 n1 n2 n3 n4 rs.length sc.length c1 c2 c3 c4 c5 c6 c7 nx _ os c hs _ _ R0.out.lts hn1.out R0.out.hi R0.out.oi).mono ?_
    rintro e w9 ⟨rfl, hb9⟩
    have R1 := hide (R0.out.next hb9)
    have B2 := hide (below_then B1.out hb9)
    clear k0 k1 k2 k3 k4 k5 k6 k7 hb9 R0 B1 hlw hzB
    cases hp : pvsB n1 os hs
    · rw [hp] at hE
      go_wp2_with fail
      go_ret
      exact ⟨ret_bool (by rw [hE.out]; rfl), B2.out⟩
    · have hlw := R1.out.vs.lt
      obtain ⟨k0, k1, k2, k3, k4, k5, k6, k7⟩ := vs8 R1.out.vs
      go_wp2_with fail
      refine (threadViews_any A1 A2 A3 A4 A5 A6 A7 n1 n2 n3 n4 hs.length sc.length c1 c2 c3 c4 c5 c6 c7 nx _ os c rs _ _ R1.out.lts hz.out R1.out.ri R1.out.oi).mono ?_
      rintro e w10 ⟨rfl, hb10⟩
      have R2 := hide (R1.out.next hb10)
      have B3 := hide (below_then B2.out hb10)
      clear k0 k1 k2 k3 k4 k5 k6 k7 hb10 R1 B2 hlw
      obtain ⟨tv, htv⟩ : ∃ tv, tv = (decide (rs.length = n2) && allB (fun k => ownB n1 os (getr rs k).zs) rs.length) := ⟨_, rfl⟩
      rw [← htv] at hE ⊢
      clear htv
      cases tv
      · rw [hp] at hE
        go_wp2_with fail
        go_ret
        exact ⟨ret_bool (by rw [hE.out]; rfl), B3.out⟩
      · have hlw := R2.out.vs.lt
        obtain ⟨k0, k1, k2, k3, k4, k5, k6, k7⟩ := vs8 R2.out.vs
        go_wp2_with fail
        refine (viewOk_any A1 A2 A3 A4 A5 A6 A7 n1 n2 n3 n4 hs.length rs.length sc.length c1 c2 c3 c4 c5 c6 c7 nx A7 _ sc os c7 c _ _ R2.out.lts R2.out.si R2.out.oi).mono ?_
        rintro e w11 ⟨rfl, hb11⟩
        have B4 := hide (below_then B3.out hb11)
        clear k0 k1 k2 k3 k4 k5 k6 k7 hb11 R2 B3 hlw
        go_wp2_with fail
        go_ret
        exact ⟨ret_bool (by rw [hE.out, hp]; rfl), B4.out⟩
end Go.Proofs.Ytfkaacfeikmabaa

namespace Go.Proofs.Ytfkaacfeikmabaa
open Go.RowKit

def viewsB (n1 n2 : Nat) (nx : Int) (hs : List (List PostD)) (rs : List RowD) (sc : List Int) : Bool :=
  (foI n1 nx hs).isSome && (postsB hs && (decide (rs.length = n2) && allB (fun k => viewB hs (getr rs k).zs) rs.length) && viewB hs sc)
theorem foI_all {n1 : Nat} {nx : Int} {hs : List (List PostD)} {os : List Int} (h : foI n1 nx hs = some os) : ownAll nx.toNat hs hs.length = some os := by
  unfold foI at h
  split at h
  · cases h
  · exact h
theorem pvsB_eq {n1 : Nat} {nx : Int} {hs : List (List PostD)} {os : List Int} (h : foI n1 nx hs = some os) : pvsB n1 os hs = postsB hs := by
  obtain rfl := foI_len h
  unfold pvsB postsB
  refine allB_congr (fun x _ => allB_congr (fun k _ => ?_))
  unfold pvB postB
  rw [ownB_view (foI_all h)]
theorem viewsI_eq (n1 n2 : Nat) (nx : Int) (hs : List (List PostD)) (rs : List RowD) (sc : List Int) : viewsI n1 n2 nx hs rs sc = viewsB n1 n2 nx hs rs sc := by
  unfold viewsI viewsB
  cases h : foI n1 nx hs with
  | none => rfl
  | some os =>
    obtain rfl := foI_len h
    have e : ∀ v, ownB hs.length os v = viewB hs v := ownB_view (foI_all h)
    simp only [pvsB_eq h, e, Option.isSome_some, Bool.true_and]
end Go.Proofs.Ytfkaacfeikmabaa

namespace Go.Proofs.Ytfkaacfeikmabaa
open Go.RowKit

def comB (ts : List (List InsD)) (pcs : List Int) (rs : List RowD) : Bool := decide (pcs.length = ts.length) && decide (rs.length = ts.length) && allB (fun k => decide (0 ≤ geti pcs k ∧ geti pcs k ≤ ((gett ts k).length : Int) ∧ (getr rs k).n = 6)) ts.length
def waitsB (cells : Nat) (r : RowD) : Bool := decide (r.n ≤ 4) && allB (fun j => decide (0 ≤ geti r.zs (j * 2) ∧ geti r.zs (j * 2) < (cells : Int))) r.n
def bufsB (cells n2 : Nat) (rs : List RowD) : Bool := decide (rs.length = n2) && allB (fun k => waitsB cells (getr rs k)) rs.length
def noViewsB (s : StD) : Bool := decide (s.H.hs.length = 0) && decide (s.view.rs.length = 0) && decide (s.sc.n = 0) && decide (s.next = 0)
def restB (p : ProgD) (s : StD) : Bool :=
  if s.kind = 0 then decide (s.mem.n = p.init.length) && decide (s.bufs.rs.length = 0) && noViewsB s
  else if s.kind = 1 then decide (s.mem.n = p.init.length) && bufsB p.init.length p.ts.length s.bufs.rs && noViewsB s
  else if s.kind = 2 then decide (s.mem.n = 0) && decide (s.bufs.rs.length = 0) && viewsB p.init.length p.ts.length s.next s.H.hs s.view.rs s.sc.zs
  else false
def stateB (p : ProgD) (s : StD) : Bool := progB p && comB p.ts s.pc.zs s.F.rs && restB p s
def rns (rs : List RowD) : List Nat := rs.map (fun r => r.n)
theorem rns_len (rs : List RowD) : (rns rs).length = rs.length := by simp [rns]
theorem rns_get (rs : List RowD) (k : Nat) : getn (rns rs) k = (getr rs k).n := by
  unfold rns getr getn
  rw [List.getD_eq_getElem?_getD, List.getD_eq_getElem?_getD, List.getElem?_map]
  cases rs[k]? <;> rfl
def doneB (p : ProgD) (s : StD) : Bool := stateB p s && (endedB p.ts s.pc.zs && (if s.kind = 1 then emptyB (rns s.bufs.rs) else true))

theorem comB_same {ts : List (List InsD)} {pcs : List Int} {a b : List RowD} (h : SameRows a b) : comB ts pcs a = comB ts pcs b := by
  unfold comB
  rw [h.1]
  by_cases hl : b.length = ts.length
  · congr 1
    refine allB_congr (fun k hk => ?_)
    rw [(h.2 k (by rw [h.1, hl]; exact hk)).1]
  · simp [hl]
theorem bufsB_same {c m : Nat} {a b : List RowD} (h : SameRows a b) : bufsB c m a = bufsB c m b := by
  unfold bufsB
  rw [h.1]
  congr 1
  refine allB_congr (fun k hk => ?_)
  obtain ⟨e1, e2⟩ := h.2 k (by rw [h.1]; exact hk)
  unfold waitsB
  rw [e1, e2]
theorem viewsB_same {n1 n2 : Nat} {nx : Int} {hs : List (List PostD)} {a b : List RowD} {sc : List Int} (h : SameRows a b) : viewsB n1 n2 nx hs a sc = viewsB n1 n2 nx hs b sc := by
  unfold viewsB
  rw [h.1]
  congr 4
  refine allB_congr (fun k hk => ?_)
  rw [(h.2 k (by rw [h.1]; exact hk)).2]
theorem emptyB_same {a b : List RowD} (h : SameRows a b) : emptyB (rns a) = emptyB (rns b) := by
  unfold emptyB
  rw [rns_len, rns_len, h.1]
  refine allB_congr (fun k hk => ?_)
  rw [rns_get, rns_get, (h.2 k (by rw [h.1]; exact hk)).1]
theorem stateB_same {p : ProgD} {s d : StD} (h : SameSt s d) : stateB p s = stateB p d := by
  unfold stateB restB noViewsB
  rw [comB_same h.F, bufsB_same h.bufs, viewsB_same h.view, h.kind, h.pc.2, h.mem.1, h.H, h.sc.1, h.sc.2, h.next, h.bufs.1, h.view.1]
theorem doneB_same {p : ProgD} {s d : StD} (h : SameSt s d) : doneB p s = doneB p d := by
  unfold doneB
  rw [stateB_same h, emptyB_same h.bufs, h.kind, h.pc.2]

structure StAt (w : World) (n : Nat) (s : StD) : Prop where
  pc : IntsAt w (Old n) s.pc.A s.pc.zs
  F : RowsAt w (Old n) s.F.A s.F.rs
  mem : IntsAt w (Old n) s.mem.A s.mem.zs
  bufs : RowsAt w (Old n) s.bufs.A s.bufs.rs
  H : HistsAt w (Old n) s.H.A s.H.hs
  view : RowsAt w (Old n) s.view.A s.view.rs
  sc : IntsAt w (Old n) s.sc.A s.sc.zs
  sz : n ≤ w.heap.size
structure StLen (s : StD) : Prop where
  pc : s.pc.zs.length = s.pc.n
  F : s.F.rs.length = s.F.n
  mem : s.mem.zs.length = s.mem.n
  bufs : s.bufs.rs.length = s.bufs.n
  H : s.H.hs.length = s.H.n
  view : s.view.rs.length = s.view.n
  sc : s.sc.zs.length = s.sc.n
  eF : ∀ k, k < s.F.rs.length → (getr s.F.rs k).zs.length = (getr s.F.rs k).n
  eB : ∀ k, k < s.bufs.rs.length → (getr s.bufs.rs k).zs.length = (getr s.bufs.rs k).n * 2
  eV : ∀ k, k < s.view.rs.length → (getr s.view.rs k).zs.length = (getr s.view.rs k).n
section
variable {w w' : World} {n : Nat} {s : StD}
theorem StAt.lts (h : StAt w n s) : ∀ b, Old n b → b < w.heap.size := fun _ k => Nat.lt_of_lt_of_le k h.sz
theorem StAt.next (h : StAt w n s) (hb : Below w.heap.size w w') : StAt w' n s :=
  ⟨h.pc.below hb h.lts, h.F.below hb h.lts, h.mem.below hb h.lts, h.bufs.below hb h.lts, h.H.below hb h.lts, h.view.below hb h.lts, h.sc.below hb h.lts, Nat.le_trans h.sz hb.size⟩
theorem RowD.ok.at_ {r : RowD} (h : r.ok w) : IntsAt w (Old w.heap.size) r.A r.zs := RvI.src h.1 (by have := h.2.1; have := h.2.2; omega) rfl
theorem RowsI.read {t et : TypeId} {lo hi : Nat} {A : Option Addr} {rs : List RowD} (h : RowsI t et w lo hi A rs) (hn : rs.length ≤ 1048576) (hz : ∀ k, k < rs.length → (getr rs k).zs.length ≤ 9223372036854775807) : RowsAt w (Old w.heap.size) A rs :=
  ⟨hn, fun h0 => by
    obtain ⟨q, e, ho⟩ := h.at_ h0
    obtain ⟨cs, hb, -, hc⟩ := ho.row
    refine ⟨q, 0, e, hb.lt, fun k hk => ?_⟩
    have hr : RvI et w (getr rs k).lo (getr rs k).hi (.slice (getr rs k).A (getr rs k).n (getr rs k).c) (getr rs k).n (getr rs k).zs := ho.each k hk
    have h2 : w.cell? ⟨q, 0 + k, none⟩ = some (.slice (getr rs k).A (getr rs k).n (getr rs k).c) := by rw [Nat.zero_add, hb.cell]; exact hc k hk
    exact ⟨_, _, h2, hr.src (hz k hk) rfl⟩⟩
theorem RowsP.okF.at_ {r : RowsP} (h : r.okF w) : RowsAt w (Old w.heap.size) r.A r.rs := h.1.read (by have := h.2.1; have := h.2.2.1; omega) (fun k hk => by have := h.2.2.2 k hk; omega)
theorem RowsP.okB.at_ {r : RowsP} (h : r.okB w) : RowsAt w (Old w.heap.size) r.A r.rs := h.1.read (by have := h.2.1; have := h.2.2.1; omega) (fun k hk => by have := h.2.2.2 k hk; omega)
theorem StIn.at_ (h : StIn w s) : StAt w w.heap.size s :=
  ⟨h.pc.at_, h.F.at_, h.mem.at_, h.bufs.at_, h.H.1.at_ (h.bnd 4 (by omega)), h.view.at_, h.sc.at_, Nat.le_refl _⟩
theorem StIn.len (h : StIn w s) : StLen s :=
  ⟨h.pc.2.1, h.F.2.1, h.mem.2.1, h.bufs.2.1, h.H.2.1, h.view.2.1, h.sc.2.1, fun k hk => (h.F.2.2.2 k hk).1, fun k hk => (h.bufs.2.2.2 k hk).1, fun k hk => (h.view.2.2.2 k hk).1⟩
end
end Go.Proofs.Ytfkaacfeikmabaa

namespace Go.Proofs.Ytfkaacfeikmabaa
open Go.RowKit

theorem Blk.new3 (w : World) (o1 o2 o3 : Obj) (t : TypeId) (cs : Array Value) : Blk ((((w.alloc o1).alloc o2).alloc o3).alloc (Obj.cells cs t)) (w.heap.size + 1 + 1 + 1) t cs := by
  have h := Blk.new (((w.alloc o1).alloc o2).alloc o3) t cs
  simpa only [World.size_alloc] using h
theorem noCells (n : Nat) : ((n : Int) == 0) = decide (n = 0) := by
  rw [Bool.eq_iff_iff]
  simp

set_option maxRecDepth 100000 in
set_option maxHeartbeats 1600000 in
theorem kindOf_0 (A1 A2 A3 A4 A5 A6 A7 A8 A9 : Option Addr) (n1 n2 n3 n4 n5 n6 n7 n8 n9 c1 c2 c3 c4 c5 c6 c7 c8 c9 : Nat) (nx : Int) (w : World) :
    Calls Try.prog 101 #[.agg #[.slice A1 n1 c1, .slice A2 n2 c2], .agg #[.int .i64 0, .slice A3 n3 c3, .slice A4 n4 c4, .slice A5 n5 c5, .slice A6 n6 c6, .slice A7 n7 c7, .slice A8 n8 c8, .slice A9 n9 c9, .int .i64 nx]] w fun e w' => ∃ T, e = .returned (.iface 133 (.pointer (some ⟨T, 0, none⟩))) ∧ Blk w' T 137 #[.slice A1 n1 c1, .slice A2 n2 c2, .slice A3 n3 c3, .slice A4 n4 c4, .slice A5 n5 c5] ∧ w.heap.size ≤ T ∧ Below w.heap.size w w' := by
  go_enter Try.func101, Try.ntmps101
  go_wp2_with fail
  go_ret
  exact ⟨_, rfl, Blk.new3 _ _ _ _ _ _, by omega, ((below2 _ _ _).alloc (by simp; omega) _).alloc (by simp; omega) _⟩

set_option maxRecDepth 100000 in
set_option maxHeartbeats 1600000 in
theorem kindOf_1 (A1 A2 A3 A4 A5 A6 A7 A8 A9 : Option Addr) (n1 n2 n3 n4 n5 n6 n7 n8 n9 c1 c2 c3 c4 c5 c6 c7 c8 c9 : Nat) (nx : Int) (w : World) :
    Calls Try.prog 101 #[.agg #[.slice A1 n1 c1, .slice A2 n2 c2], .agg #[.int .i64 1, .slice A3 n3 c3, .slice A4 n4 c4, .slice A5 n5 c5, .slice A6 n6 c6, .slice A7 n7 c7, .slice A8 n8 c8, .slice A9 n9 c9, .int .i64 nx]] w fun e w' => ∃ T, e = .returned (.iface 139 (.pointer (some ⟨T, 0, none⟩))) ∧ Blk w' T 141 #[.slice A1 n1 c1, .slice A2 n2 c2, .slice A3 n3 c3, .slice A4 n4 c4, .slice A5 n5 c5, .slice A6 n6 c6] ∧ w.heap.size ≤ T ∧ Below w.heap.size w w' := by
  go_enter Try.func101, Try.ntmps101
  go_wp2_with fail
  go_ret
  exact ⟨_, rfl, Blk.new3 _ _ _ _ _ _, by omega, ((below2 _ _ _).alloc (by simp; omega) _).alloc (by simp; omega) _⟩

set_option maxRecDepth 100000 in
set_option maxHeartbeats 1600000 in
theorem kindOf_2 (A1 A2 A3 A4 A5 A6 A7 A8 A9 : Option Addr) (n1 n2 n3 n4 n5 n6 n7 n8 n9 c1 c2 c3 c4 c5 c6 c7 c8 c9 : Nat) (nx : Int) (w : World) :
    Calls Try.prog 101 #[.agg #[.slice A1 n1 c1, .slice A2 n2 c2], .agg #[.int .i64 2, .slice A3 n3 c3, .slice A4 n4 c4, .slice A5 n5 c5, .slice A6 n6 c6, .slice A7 n7 c7, .slice A8 n8 c8, .slice A9 n9 c9, .int .i64 nx]] w fun e w' => ∃ T, e = .returned (.iface 142 (.pointer (some ⟨T, 0, none⟩))) ∧ Blk w' T 144 #[.slice A1 n1 c1, .slice A2 n2 c2, .slice A3 n3 c3, .slice A4 n4 c4, .slice A7 n7 c7, .slice A8 n8 c8, .slice A9 n9 c9, .int .i64 nx] ∧ w.heap.size ≤ T ∧ Below w.heap.size w w' := by
  go_enter Try.func101, Try.ntmps101
  go_wp2_with fail
  go_ret
  exact ⟨_, rfl, Blk.new3 _ _ _ _ _ _, by omega, ((below2 _ _ _).alloc (by simp; omega) _).alloc (by simp; omega) _⟩

set_option maxRecDepth 100000 in
set_option maxHeartbeats 1600000 in
theorem kindOf_no (A1 A2 A3 A4 A5 A6 A7 A8 A9 : Option Addr) (n1 n2 n3 n4 n5 n6 n7 n8 n9 c1 c2 c3 c4 c5 c6 c7 c8 c9 : Nat) (nx : Int) (w : World) (kd : Int) (h0 : kd ≠ 0) (h1 : kd ≠ 1) (h2 : kd ≠ 2) :
    Calls Try.prog 101 #[.agg #[.slice A1 n1 c1, .slice A2 n2 c2], .agg #[.int .i64 kd, .slice A3 n3 c3, .slice A4 n4 c4, .slice A5 n5 c5, .slice A6 n6 c6, .slice A7 n7 c7, .slice A8 n8 c8, .slice A9 n9 c9, .int .i64 nx]] w fun e w' => e = .returned .nilIface ∧ Below w.heap.size w w' := by
  have h0' : (kd == 0) = false := by simpa using h0
  have h1' : (kd == 1) = false := by simpa using h1
  have h2' : (kd == 2) = false := by simpa using h2
  go_enter Try.func101, Try.ntmps101
  go_wp2_with fail
  go_ret
  exact ⟨rfl, (below2 _ _ _).alloc (by simp; omega) _⟩
set_option maxHeartbeats 1600000 in
theorem noMem_any (s : StD) (w : World) : Calls Try.prog 107 #[.agg s.cells] w fun e w' => e = .returned (.bool (decide (s.mem.n = 0))) ∧ Below w.heap.size w w' := by
  unfold StD.cells
  go_enter Try.func107, Try.ntmps107
  go_wp2_with fail
  go_ret
  exact ⟨ret_bool (noCells _), below1 _ _⟩
set_option maxHeartbeats 1600000 in
theorem noBufs_any (s : StD) (w : World) : Calls Try.prog 104 #[.agg s.cells] w fun e w' => e = .returned (.bool (decide (s.bufs.n = 0))) ∧ Below w.heap.size w w' := by
  unfold StD.cells
  go_enter Try.func104, Try.ntmps104
  go_wp2_with fail
  go_ret
  exact ⟨ret_bool (noCells _), below1 _ _⟩

set_option maxRecDepth 100000 in
set_option maxHeartbeats 3200000 in
theorem noViews_any (s : StD) (w : World) : Calls Try.prog 105 #[.agg s.cells] w fun e w' => e = .returned (.bool (decide (s.H.n = 0) && decide (s.view.n = 0) && decide (s.sc.n = 0) && decide (s.next = 0))) ∧ Below w.heap.size w w' := by
  have hb0 := hide (below1 w (Obj.cells s.cells 48))
  unfold StD.cells at hb0 ⊢
  by_cases hH : s.H.n = 0
  · by_cases hview : s.view.n = 0
    · by_cases hsc : s.sc.n = 0
      · have kH : ((s.H.n : Int) == 0) = true := by simp [hH]
        have kview : ((s.view.n : Int) == 0) = true := by simp [hview]
        have ksc : ((s.sc.n : Int) == 0) = true := by simp [hsc]
        have hE := hide (show (decide (s.H.n = 0) && decide (s.view.n = 0) && decide (s.sc.n = 0) && decide (s.next = 0)) = (s.next == 0) from by simp [hH, hview, hsc]; rfl)
        clear hH hview hsc
        go_enter Try.func105, Try.ntmps105
        go_wp2_with fail
        go_ret
        exact ⟨ret_bool hE.out.symm, hb0.out⟩
      · have kH : ((s.H.n : Int) == 0) = true := by simp [hH]
        have kview : ((s.view.n : Int) == 0) = true := by simp [hview]
        have ksc : ((s.sc.n : Int) == 0) = false := by rw [noCells]; simp [hsc]
        have hE := hide (show (decide (s.H.n = 0) && decide (s.view.n = 0) && decide (s.sc.n = 0) && decide (s.next = 0)) = false from by simp [hsc])
        clear hH hview hsc
        go_enter Try.func105, Try.ntmps105
        go_wp2_with fail
        go_ret
        exact ⟨ret_bool hE.out.symm, hb0.out⟩
    · have kH : ((s.H.n : Int) == 0) = true := by simp [hH]
      have kview : ((s.view.n : Int) == 0) = false := by rw [noCells]; simp [hview]
      have hE := hide (show (decide (s.H.n = 0) && decide (s.view.n = 0) && decide (s.sc.n = 0) && decide (s.next = 0)) = false from by simp [hview])
      clear hH hview
      go_enter Try.func105, Try.ntmps105
      go_wp2_with fail
      go_ret
      exact ⟨ret_bool hE.out.symm, hb0.out⟩
  · have kH : ((s.H.n : Int) == 0) = false := by rw [noCells]; simp [hH]
    have hE := hide (show (decide (s.H.n = 0) && decide (s.view.n = 0) && decide (s.sc.n = 0) && decide (s.next = 0)) = false from by simp [hH])
    clear hH
    go_enter Try.func105, Try.ntmps105
    go_wp2_with fail
    go_ret
    exact ⟨ret_bool hE.out.symm, hb0.out⟩
end Go.Proofs.Ytfkaacfeikmabaa
