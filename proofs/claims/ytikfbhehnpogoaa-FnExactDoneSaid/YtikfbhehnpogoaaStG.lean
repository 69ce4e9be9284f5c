/- viewState.viewsOk: any state of views. · When a state of views is right, by its histories alone: the same as by the table. -/
import Derived.Test.YtikfbhehnpogoaaStF
namespace Go.Proofs.Ytikfbhehnpogoaa
open Go.RowKit

/-- What viewsOk answers. -/
def viewsI (n1 n2 : Nat) (nx : Int) (hs : List (List PostD)) (rs : List RowD) (sc : List Int) : Bool :=
  match foI n1 nx hs with
  | none => false
  | some os => pvsB n1 os hs && (decide (rs.length = n2) && allB (fun k => ownB n1 os (getr rs k).zs) rs.length) && ownB n1 os sc
theorem foI_len {n1 : Nat} {nx : Int} {hs : List (List PostD)} {os : List Int} (h : foI n1 nx hs = some os) : hs.length = n1 := by
  unfold foI at h
  split at h
  · cases h
  · omega
/-- What the last line reads: all in blocks below n. -/
structure VoR (g n : Nat) (cs : Array Value) (A5 A6 A7 O : Option Addr) (hs : List (List PostD)) (rs : List RowD) (sc os : List Int) (w : World) : Prop where
  vs : Blk w g 108 cs
  hi : HistsAt w (Old n) A5 hs
  ri : RowsAt w (Old n) A6 rs
  si : IntsAt w (Old n) A7 sc
  oi : IntsAt w (Old n) O os
  sz : n ≤ w.heap.size
section
variable {w w' : World} {g n : Nat} {cs : Array Value} {A5 A6 A7 O : Option Addr} {hs : List (List PostD)} {rs : List RowD} {sc os : List Int}
theorem VoR.lts (h : VoR g n cs A5 A6 A7 O hs rs sc os w) : ∀ b, Old n b → b < w.heap.size := fun _ k => Nat.lt_of_lt_of_le k h.sz
theorem VoR.next (h : VoR g n cs A5 A6 A7 O hs rs sc os w) (hb : Below w.heap.size w w') : VoR g n cs A5 A6 A7 O hs rs sc os w' :=
  ⟨h.vs.below hb h.vs.lt, h.hi.below hb h.lts, h.ri.below hb h.lts, h.si.below hb h.lts, h.oi.below hb h.lts, Nat.le_trans h.sz hb.size⟩
theorem RowsAt.more {w : World} {S S' : Nat → Prop} {A : Option Addr} {src : List RowD} (h : RowsAt w S A src) (hS : ∀ b, S b → S' b) : RowsAt w S' A src :=
  ⟨h.1, fun hn => by
    obtain ⟨b, off, e, hb, hc⟩ := h.2 hn
    refine ⟨b, off, e, hS b hb, fun k hk => ?_⟩
    obtain ⟨A', c', h1, h2⟩ := hc k hk
    exact ⟨A', c', h1, h2.more hS⟩⟩
end

set_option maxRecDepth 100000 in
set_option maxHeartbeats 12800000 in
theorem viewsOk_any (A1 A2 A3 A4 A5 A6 A7 : Option Addr) (n1 n2 n3 n4 c1 c2 c3 c4 c5 c6 c7 : Nat) (nx : Int) (hs : List (List PostD)) (rs : List RowD) (sc : List Int) (S : Nat → Prop) (w : World) (hS : ∀ b, S b → b < w.heap.size) (hz : ∀ k, k < rs.length → (getr rs k).zs.length = (getr rs k).n) (hh : HistsAt w S A5 hs) (hr : RowsAt w S A6 rs) (hs' : IntsAt w S A7 sc) :
    Calls Try.prog 60 #[.agg #[.slice A1 n1 c1, .slice A2 n2 c2, .slice A3 n3 c3, .slice A4 n4 c4, .slice A5 hs.length c5, .slice A6 rs.length c6, .slice A7 sc.length c7, .int .i64 nx]] w fun e w' => e = .returned (.bool (viewsI n1 n2 nx hs rs sc)) ∧ Below w.heap.size w w' := by
  replace hz := hide hz
  have K0 := hide (Blk.new w 108 #[.slice A1 n1 c1, .slice A2 n2 c2, .slice A3 n3 c3, .slice A4 n4 c4, .slice A5 hs.length c5, .slice A6 rs.length c6, .slice A7 sc.length c7, .int .i64 nx])
  have hb0 := hide (below1 w (Obj.cells #[.slice A1 n1 c1, .slice A2 n2 c2, .slice A3 n3 c3, .slice A4 n4 c4, .slice A5 hs.length c5, .slice A6 rs.length c6, .slice A7 sc.length c7, .int .i64 nx] 108))
  go_enter Try.func60, Try.ntmps60
  go_wp2_with fail
  obtain ⟨wq, hwq⟩ : ∃ wq, wq = w.alloc (Obj.cells #[.slice A1 n1 c1, .slice A2 n2 c2, .slice A3 n3 c3, .slice A4 n4 c4, .slice A5 hs.length c5, .slice A6 rs.length c6, .slice A7 sc.length c7, .int .i64 nx] 108) := ⟨_, rfl⟩
  rw [← hwq] at K0 hb0 ⊢
  have hSq : ∀ b, S b → b < wq.heap.size := fun b h => Nat.lt_of_lt_of_le (hS b h) hb0.out.size
  have hhq := hide (hh.below hb0.out hS)
  have hrq := hide (hr.below hb0.out hS)
  have hsq := hide (hs'.below hb0.out hS)
  clear hwq hh hr hs'
  refine (findOwners_any A1 A2 A3 A4 A5 A6 A7 n1 n2 n3 n4 rs.length sc.length c1 c2 c3 c4 c5 c6 c7 nx hs S wq hSq hhq.out).mono ?_
  rintro e w1 ⟨hcase, hb1⟩
  have B1 := hide (below_then hb0.out hb1)
  have K1 := hide (K0.out.below hb1 K0.out.lt)
  have hhr := hide (hhq.out.below hb1 hSq)
  have hrr := hide (hrq.out.below hb1 hSq)
  have hsr := hide (hsq.out.below hb1 hSq)
  have hz1 := hb1.size
  clear hhq hrq hsq hb0 K0 hb1
  rcases hcase with ⟨hfo, rfl⟩ | ⟨os, q, c, hfo, rfl, ho⟩
  · have hE := hide (show viewsI n1 n2 nx hs rs sc = false from by unfold viewsI; rw [hfo])
    clear hfo
    go_wp2_with fail
    go_ret
    exact ⟨ret_bool hE.out.symm, B1.out⟩
  · have hn1 := hide (foI_len hfo)
    have hE := hide (show viewsI n1 n2 nx hs rs sc = (pvsB n1 os hs && (decide (rs.length = n2) && allB (fun k => ownB n1 os (getr rs k).zs) rs.length) && ownB n1 os sc) from by unfold viewsI; rw [hfo])
    have R0 := hide (show VoR w.heap.size w1.heap.size #[.slice A1 n1 c1, .slice A2 n2 c2, .slice A3 n3 c3, .slice A4 n4 c4, .slice A5 hs.length c5, .slice A6 rs.length c6, .slice A7 sc.length c7, .int .i64 nx] A5 A6 A7 (some ⟨q, 0, none⟩) hs rs sc os w1 from
      ⟨K1.out, hhr.out.more (fun b h => Nat.lt_of_lt_of_le (hSq b h) hz1), hrr.out.more (fun b h => Nat.lt_of_lt_of_le (hSq b h) hz1), hsr.out.more (fun b h => Nat.lt_of_lt_of_le (hSq b h) hz1), ho.more (fun b h => h.2), Nat.le_refl _⟩)
    have hzB := B1.out.size
    clear hfo ho hhr hrr hsr K1
    have hlw := R0.out.vs.lt
    obtain ⟨k0, k1, k2, k3, k4, k5, k6, k7⟩ := vs8 R0.out.vs
    go_wp2_with fail
    refine (postViews_any A1 A2 A3 A4 A5 A6 A7 n1 n2 n3 n4 rs.length sc.length c1 c2 c3 c4 c5 c6 c7 nx _ os c hs _ _ R0.out.lts hn1.out R0.out.hi R0.out.oi).mono ?_
    rintro e w9 ⟨rfl, hb9⟩
    have R1 := hide (R0.out.next hb9)
    have B2 := hide (below_then B1.out hb9)
    clear k0 k1 k2 k3 k4 k5 k6 k7 hb9 R0 B1 hlw hzB
    cases hp : pvsB n1 os hs
    · rw [hp] at hE
      go_wp2_with fail
      go_ret
      exact ⟨ret_bool (by rw [hE.out]; rfl), B2.out⟩
    · have hlw := R1.out.vs.lt
      obtain ⟨k0, k1, k2, k3, k4, k5, k6, k7⟩ := vs8 R1.out.vs
      go_wp2_with fail
      refine (threadViews_any A1 A2 A3 A4 A5 A6 A7 n1 n2 n3 n4 hs.length sc.length c1 c2 c3 c4 c5 c6 c7 nx _ os c rs _ _ R1.out.lts hz.out R1.out.ri R1.out.oi).mono ?_
      rintro e w10 ⟨rfl, hb10⟩
      have R2 := hide (R1.out.next hb10)
      have B3 := hide (below_then B2.out hb10)
      clear k0 k1 k2 k3 k4 k5 k6 k7 hb10 R1 B2 hlw
      obtain ⟨tv, htv⟩ : ∃ tv, tv = (decide (rs.length = n2) && allB (fun k => ownB n1 os (getr rs k).zs) rs.length) := ⟨_, rfl⟩
      rw [← htv] at hE ⊢
      clear htv
      cases tv
      · rw [hp] at hE
        go_wp2_with fail
        go_ret
        exact ⟨ret_bool (by rw [hE.out]; rfl), B3.out⟩
      · have hlw := R2.out.vs.lt
        obtain ⟨k0, k1, k2, k3, k4, k5, k6, k7⟩ := vs8 R2.out.vs
        go_wp2_with fail
        refine (viewOk_any A1 A2 A3 A4 A5 A6 A7 n1 n2 n3 n4 hs.length rs.length sc.length c1 c2 c3 c4 c5 c6 c7 nx A7 _ sc os c7 c _ _ R2.out.lts R2.out.si R2.out.oi).mono ?_
        rintro e w11 ⟨rfl, hb11⟩
        have B4 := hide (below_then B3.out hb11)
        clear k0 k1 k2 k3 k4 k5 k6 k7 hb11 R2 B3 hlw
        go_wp2_with fail
        go_ret
        exact ⟨ret_bool (by rw [hE.out, hp]; rfl), B4.out⟩
end Go.Proofs.Ytikfbhehnpogoaa

namespace Go.Proofs.Ytikfbhehnpogoaa
open Go.RowKit

def viewsB (n1 n2 : Nat) (nx : Int) (hs : List (List PostD)) (rs : List RowD) (sc : List Int) : Bool :=
  (foI n1 nx hs).isSome && (postsB hs && (decide (rs.length = n2) && allB (fun k => viewB hs (getr rs k).zs) rs.length) && viewB hs sc)
theorem foI_all {n1 : Nat} {nx : Int} {hs : List (List PostD)} {os : List Int} (h : foI n1 nx hs = some os) : ownAll nx.toNat hs hs.length = some os := by
  unfold foI at h
  split at h
  · cases h
  · exact h
theorem pvsB_eq {n1 : Nat} {nx : Int} {hs : List (List PostD)} {os : List Int} (h : foI n1 nx hs = some os) : pvsB n1 os hs = postsB hs := by
  obtain rfl := foI_len h
  unfold pvsB postsB
  refine allB_congr (fun x _ => allB_congr (fun k _ => ?_))
  unfold pvB postB
  rw [ownB_view (foI_all h)]
theorem viewsI_eq (n1 n2 : Nat) (nx : Int) (hs : List (List PostD)) (rs : List RowD) (sc : List Int) : viewsI n1 n2 nx hs rs sc = viewsB n1 n2 nx hs rs sc := by
  unfold viewsI viewsB
  cases h : foI n1 nx hs with
  | none => rfl
  | some os =>
    obtain rfl := foI_len h
    have e : ∀ v, ownB hs.length os v = viewB hs v := ownB_view (foI_all h)
    simp only [pvsB_eq h, e, Option.isSome_some, Bool.true_and]
end Go.Proofs.Ytikfbhehnpogoaa
