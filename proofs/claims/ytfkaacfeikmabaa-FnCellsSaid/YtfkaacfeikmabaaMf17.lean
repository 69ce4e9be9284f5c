/- viewState: owners.cellOf, viewOk, threadViewsOk: any table, any view. · viewState.threadViewsOk: any table, any views. · viewState.postViewsOk: any table, any histories. -/
import Derived.Test.YtfkaacfeikmabaaMf0
import Derived.Test.YtfkaacfeikmabaaMf8
import Derived.Test.YtfkaacfeikmabaaMf9
import Derived.Test.YtfkaacfeikmabaaMf15
import Derived.Test.YtfkaacfeikmabaaMf16
import Derived.Deep.RegionHeld3
namespace Go.Proofs.Ytfkaacfeikmabaa
open Go.RowKit

set_option maxHeartbeats 800000 in
theorem cellO_any (A : Option Addr) (os : List Int) (c : Nat) (i : Int) (S : Nat → Prop) (w : World) (ha : IntsAt w S A os) :
    Calls Try.prog 195 #[.slice A os.length c, .int .i64 i] w fun e w' => e = .returned (.int .i64 (cellO os i)) ∧ w' = w := by
  have hn := ha.1
  by_cases h0 : i < 0
  · have hE := hide (show cellO os i = -1 from by unfold cellO; rw [if_pos (.inl h0)])
    go_enter Try.func195, Try.ntmps195
    go_wp2_with fail
    go_ret
    exact ⟨by rw [hE.out]; rfl, rfl⟩
  · by_cases h1 : (os.length : Int) ≤ i
    · have hE := hide (show cellO os i = -1 from by unfold cellO; rw [if_pos (.inr h1)])
      have h0' : decide (i < 0) = false := decide_eq_false h0
      go_enter Try.func195, Try.ntmps195
      go_wp2_with fail
      go_ret
      exact ⟨by rw [hE.out]; rfl, rfl⟩
    · have hE : cellO os i = geti os i.toNat := by unfold cellO; rw [if_neg (by omega)]
      obtain ⟨k, rfl⟩ : ∃ k : Nat, i = k := ⟨i.toNat, by omega⟩
      rw [Int.toNat_natCast] at hE
      replace hE := hide hE
      obtain ⟨b, off, rfl, -, hc⟩ := ha.2 (by omega)
      have hcell := hc k (by omega)
      have h0' : decide ((k : Int) < 0) = false := decide_eq_false h0
      have h1' : decide ((os.length : Int) ≤ (k : Int)) = false := decide_eq_false h1
      have h2 : (k : Int) < (os.length : Int) := by omega
      clear hc
      go_enter Try.func195, Try.ntmps195
      go_wp2_with fail
      go_ret
      exact ⟨by rw [hE.out]; rfl, rfl⟩

set_option maxRecDepth 100000 in
set_option maxHeartbeats 3200000 in
theorem viewOk_any (A1 A2 A3 A4 A5 A6 A7 : Option Addr) (n1 n2 n3 n4 n5 n6 n7 c1 c2 c3 c4 c5 c6 c7 : Nat) (nx : Int) (V O : Option Addr) (vs os : List Int) (cv co : Nat) (S : Nat → Prop) (w : World) (hS : ∀ b, S b → b < w.heap.size) (hv : IntsAt w S V vs) (ho : IntsAt w S O os) :
    Calls Try.prog 166 #[.agg #[.slice A1 n1 c1, .slice A2 n2 c2, .slice A3 n3 c3, .slice A4 n4 c4, .slice A5 n5 c5, .slice A6 n6 c6, .slice A7 n7 c7, .int .i64 nx], .slice V vs.length cv, .slice O os.length co] w fun e w' => e = .returned (.bool (ownB n1 os vs)) ∧ Below w.heap.size w w' := by
  have hn := hv.1
  have hb0 := below1 w (Obj.cells #[.slice A1 n1 c1, .slice A2 n2 c2, .slice A3 n3 c3, .slice A4 n4 c4, .slice A5 n5 c5, .slice A6 n6 c6, .slice A7 n7 c7, .int .i64 nx] 144)
  go_enter Try.func166, Try.ntmps166
  go_wp2_with fail
  refine (comCells_any A1 A2 A3 A4 n1 n2 n3 n4 c1 c2 c3 c4 _).mono ?_
  rintro e w1 ⟨rfl, hb⟩
  have hb1 := below_then hb0 hb
  clear hb0 hb
  by_cases hl : vs.length = n1
  · have hl' : ((vs.length : Int) != (n1 : Int)) = false := by simp [hl]
    go_wp2_with fail
    go_loopw [17] (fun i wr => ∃ (k : Nat), k ≤ vs.length ∧ i = .int .i64 k ∧ Hid (∀ j, j < k → cellO os (geti vs j) = j) ∧ Below w.heap.size w wr) (fun i _ => vs.length - (intOf i).toNat)
    case atStart => exact ⟨0, Nat.zero_le _, rfl, hide (fun j hj => by omega), hb1⟩
    case round =>
      clear hb1
      obtain ⟨k, hk, rfl, hdone, hb⟩ := hrel
      by_cases hlt : k < vs.length
      · obtain ⟨b, off, rfl, hSb, hc⟩ := (hv.below hb hS).2 (by omega)
        have hcell := hc k hlt
        have hlt' : (k : Int) < (vs.length : Int) := by omega
        clear hc
        go_wp2_with fail
        refine (cellO_any O os co (geti vs k) S wr (ho.below hb hS)).mono ?_
        rintro e w2 ⟨rfl, rfl⟩
        by_cases he : cellO os (geti vs k) = k
        · have he' : (cellO os (geti vs k) != (k : Int)) = false := by simp [he]
          go_wp2_with fail
          go_roundw
          case rel => exact ⟨k + 1, by omega, by go_num, hide (fun j hj => by
            rcases Nat.lt_succ_iff_lt_or_eq.1 hj with h | rfl
            · exact hdone.out j h
            · exact he), hb⟩
          case measure => simp [intOf]; omega
        · have he' : (cellO os (geti vs k) != (k : Int)) = true := by rw [bne_iff_ne]; exact he
          have hE : ownB n1 os vs = false := by unfold ownB; rw [allB_no hlt (by simpa using he)]; simp
          go_wp2_with fail
          go_ret
          exact ⟨ret_bool hE.symm, hb⟩
      · obtain rfl : k = vs.length := by omega
        have hE : ownB n1 os vs = true := by unfold ownB; rw [allB_yes (fun j hj => by simpa using hdone.out j hj)]; simp [hl]
        go_wp2_with fail
        go_ret
        exact ⟨ret_bool hE.symm, hb⟩
  · have hl' : ((vs.length : Int) != (n1 : Int)) = true := by rw [bne_iff_ne]; omega
    have hE : ownB n1 os vs = false := by unfold ownB; simp [hl]
    go_wp2_with fail
    go_ret
    exact ⟨ret_bool hE.symm, hb1⟩
end Go.Proofs.Ytfkaacfeikmabaa

namespace Go.Proofs.Ytfkaacfeikmabaa
open Go.RowKit

theorem vs8 {w : World} {g : Nat} {a b c d e f h i : Value} (k : Blk w g 144 #[a, b, c, d, e, f, h, i]) : w.cell? ⟨g, 0, none⟩ = some a ∧ w.cell? ⟨g, 1, none⟩ = some b ∧ w.cell? ⟨g, 2, none⟩ = some c ∧ w.cell? ⟨g, 3, none⟩ = some d ∧ w.cell? ⟨g, 4, none⟩ = some e ∧ w.cell? ⟨g, 5, none⟩ = some f ∧ w.cell? ⟨g, 6, none⟩ = some h ∧ w.cell? ⟨g, 7, none⟩ = some i :=
  ⟨k.cell 0, k.cell 1, k.cell 2, k.cell 3, k.cell 4, k.cell 5, k.cell 6, k.cell 7⟩

set_option maxRecDepth 100000 in
set_option maxHeartbeats 6400000 in
theorem threadViews_any (A1 A2 A3 A4 A5 A6 A7 : Option Addr) (n1 n2 n3 n4 n5 n7 c1 c2 c3 c4 c5 c6 c7 : Nat) (nx : Int) (O : Option Addr) (os : List Int) (co : Nat) (rs : List RowD) (S : Nat → Prop) (w : World) (hS : ∀ b, S b → b < w.heap.size) (hz : ∀ k, k < rs.length → (getr rs k).zs.length = (getr rs k).n) (hr : RowsAt w S A6 rs) (ho : IntsAt w S O os) :
    Calls Try.prog 165 #[.agg #[.slice A1 n1 c1, .slice A2 n2 c2, .slice A3 n3 c3, .slice A4 n4 c4, .slice A5 n5 c5, .slice A6 rs.length c6, .slice A7 n7 c7, .int .i64 nx], .slice O os.length co] w fun e w' => e = .returned (.bool (decide (rs.length = n2) && allB (fun k => ownB n1 os (getr rs k).zs) rs.length)) ∧ Below w.heap.size w w' := by
  have hn := hr.1
  replace hr := hide hr
  replace ho := hide ho
  replace hz := hide hz
  have K0 := hide (Blk.new w 144 #[.slice A1 n1 c1, .slice A2 n2 c2, .slice A3 n3 c3, .slice A4 n4 c4, .slice A5 n5 c5, .slice A6 rs.length c6, .slice A7 n7 c7, .int .i64 nx])
  have hb0 := hide (below1 w (Obj.cells #[.slice A1 n1 c1, .slice A2 n2 c2, .slice A3 n3 c3, .slice A4 n4 c4, .slice A5 n5 c5, .slice A6 rs.length c6, .slice A7 n7 c7, .int .i64 nx] 144))
  go_enter Try.func165, Try.ntmps165
  go_wp2_with fail
  obtain ⟨wq, hwq⟩ : ∃ wq, wq = w.alloc (Obj.cells #[.slice A1 n1 c1, .slice A2 n2 c2, .slice A3 n3 c3, .slice A4 n4 c4, .slice A5 n5 c5, .slice A6 rs.length c6, .slice A7 n7 c7, .int .i64 nx] 144) := ⟨_, rfl⟩
  rw [← hwq] at K0 hb0 ⊢
  clear hwq
  have H0 : Hid (Blk wq.drew w.heap.size 144 #[.slice A1 n1 c1, .slice A2 n2 c2, .slice A3 n3 c3, .slice A4 n4 c4, .slice A5 n5 c5, .slice A6 rs.length c6, .slice A7 n7 c7, .int .i64 nx]) := K0.out
  replace hb0 := hide hb0.out.drew
  clear K0
  go_region_held3 (fun w' => w'.cell? ⟨w.heap.size, 0, none⟩ = some (.slice A1 n1 c1) ∧ w'.cell? ⟨w.heap.size, 1, none⟩ = some (.slice A2 n2 c2) ∧ w'.cell? ⟨w.heap.size, 2, none⟩ = some (.slice A3 n3 c3) ∧ w'.cell? ⟨w.heap.size, 3, none⟩ = some (.slice A4 n4 c4) ∧ w'.cell? ⟨w.heap.size, 4, none⟩ = some (.slice A5 n5 c5) ∧ w'.cell? ⟨w.heap.size, 5, none⟩ = some (.slice A6 rs.length c6) ∧ w'.cell? ⟨w.heap.size, 6, none⟩ = some (.slice A7 n7 c7) ∧ w'.cell? ⟨w.heap.size, 7, none⟩ = some (.int .i64 nx))
    (first | exact vs8 H0.out | exact vs8 H1.out)
    (first
    | (go_at_call 161; refine (comThreads_any _ _ _ _ _ _ _ _ _ _ _ _ _).mono ?_; rintro e w1 ⟨rfl, hb1⟩; have H1 := hide (H0.out.below hb1 H0.out.lt); have B1 := hide (below_then hb0.out hb1)))
  clear H0 hb0 hb1
  have hl1 := H1.out.lt
  by_cases hl : rs.length = n2
  · have hl' : ((rs.length : Int) != (n2 : Int)) = false := by simp [hl]
    rw [hl']
    clear hl'
    obtain ⟨k0, k1, k2, k3, k4, k5, k6, k7⟩ := vs8 H1.out
    have hlH := hide hl
    clear hl
    go_wp2_with fail
    clear k0 k1 k2 k3 k4 k5 k6 k7
    go_loopw [17] (fun i wr => ∃ (k : Nat), k ≤ rs.length ∧ i = .int .i64 k ∧ Hid (∀ j, j < k → ownB n1 os (getr rs j).zs = true) ∧ Hid (Below w1.heap.size w1 wr)) (fun i _ => rs.length - (intOf i).toNat)
    case atStart => exact ⟨0, Nat.zero_le _, rfl, hide (fun j hj => by omega), hide (Below.refl _ _)⟩
    case round =>
      obtain ⟨k, hk, rfl, hdone, hb⟩ := hrel
      have hbw := B1.out.trans (hb.out.mono (by omega))
      by_cases hlt : k < rs.length
      · obtain ⟨b, off, rfl, hSb, hc⟩ := (hr.out.below hbw hS).2 (by omega)
        obtain ⟨A', c', hcell, hi⟩ := hc k hlt
        have hlt' : (k : Int) < (rs.length : Int) := by omega
        have hbl := Nat.lt_of_lt_of_le (hS b hSb) hbw.size
        obtain ⟨k0, k1, k2, k3, k4, k5, k6, k7⟩ := vs8 (H1.out.below hb.out hl1)
        have hlr := Nat.lt_of_lt_of_le hl1 hb.out.size
        have hzk := hz.out k hlt
        rw [← hzk] at hcell
        replace hzk := hide hzk
        replace hbw := hide hbw
        replace hi := hide hi
        clear hc
        go_wp2_with fail
        refine (viewOk_any A1 A2 A3 A4 A5 _ A7 n1 n2 n3 n4 n5 rs.length n7 c1 c2 c3 c4 c5 c6 c7 nx A' O (getr rs k).zs os c' co S _ (fun b h => Nat.lt_of_lt_of_le (hS b h) (Nat.le_trans hbw.out.size (below1 wr _).size)) (hi.out.below (below1 wr _) (fun b h => Nat.lt_of_lt_of_le (hS b h) hbw.out.size)) (ho.out.below (hbw.out.alloc hbw.out.size _) hS)).mono ?_
        rintro e w2 ⟨rfl, hb2⟩
        have hb3 := hide (hb.out.trans ((below_step hb2).mono hb.out.size))
        clear k0 k1 k2 k3 k4 k5 k6 k7 hb2
        cases hv : ownB n1 os (getr rs k).zs
        · have hE := hide (show (decide (rs.length = n2) && allB (fun k => ownB n1 os (getr rs k).zs) rs.length) = false from by rw [allB_no hlt hv]; simp)
          go_wp2_with fail
          go_ret
          exact ⟨ret_bool hE.out.symm, B1.out.trans (hb3.out.mono (by omega))⟩
        · go_wp2_with fail
          go_roundw
          case rel => exact ⟨k + 1, by omega, by go_num, hide (fun j hj => by
            rcases Nat.lt_succ_iff_lt_or_eq.1 hj with h | rfl
            · exact hdone.out j h
            · exact hv), hb3⟩
          case measure => simp [intOf]; omega
      · obtain rfl : k = rs.length := by omega
        have hE := hide (show (decide (rs.length = n2) && allB (fun k => ownB n1 os (getr rs k).zs) rs.length) = true from by rw [allB_yes hdone.out]; simp [hlH.out])
        go_wp2_with fail
        go_ret
        exact ⟨ret_bool hE.out.symm, hbw⟩
  · have hl' : ((rs.length : Int) != (n2 : Int)) = true := by rw [bne_iff_ne]; omega
    have hE := hide (show (decide (rs.length = n2) && allB (fun k => ownB n1 os (getr rs k).zs) rs.length) = false from by simp [hl])
    go_wp2_with fail
    go_ret
    exact ⟨ret_bool hE.out.symm, B1.out⟩
end Go.Proofs.Ytfkaacfeikmabaa

namespace Go.Proofs.Ytfkaacfeikmabaa
open Go.RowKit

theorem po4 {w : World} {g : Nat} {a b c d : Value} (k : Blk w g 86 #[a, b, c, d]) : w.cell? ⟨g, 0, none⟩ = some a ∧ w.cell? ⟨g, 1, none⟩ = some b ∧ w.cell? ⟨g, 2, none⟩ = some c ∧ w.cell? ⟨g, 3, none⟩ = some d := ⟨k.cell 0, k.cell 1, k.cell 2, k.cell 3⟩
structure PvR (w0 : World) (S : Nat → Prop) (g U cv : Nat) (cs : Array Value) (d : PostD) (V O : Option Addr) (os : List Int) (w : World) : Prop where
  vs : Blk w g 144 cs
  po : Blk w U 86 #[.int .i64 d.id, .int .i64 d.val, .bool d.glue, .slice V d.view.length cv]
  vi : IntsAt w S V d.view
  oi : IntsAt w S O os
  base : Below w0.heap.size w0 w
  hS : ∀ b, S b → b < w0.heap.size
theorem PvR.next {w0 w w' : World} {S : Nat → Prop} {g U cv : Nat} {cs : Array Value} {d : PostD} {V O : Option Addr} {os : List Int} (h : PvR w0 S g U cv cs d V O os w) (hb : Below w.heap.size w w') : PvR w0 S g U cv cs d V O os w' :=
  ⟨h.vs.below hb h.vs.lt, h.po.below hb h.po.lt, h.vi.below hb (fun b k => Nat.lt_of_lt_of_le (h.hS b k) h.base.size), h.oi.below hb (fun b k => Nat.lt_of_lt_of_le (h.hS b k) h.base.size), below_then h.base hb, h.hS⟩
def pvB (n1 : Nat) (os : List Int) (x : Nat) (d : PostD) : Bool := ownB n1 os d.view && decide (geti d.view x = d.id)
def pvsB (n1 : Nat) (os : List Int) (hs : List (List PostD)) : Bool := allB (fun x => allB (fun k => pvB n1 os x (getp (geth hs x) k)) (geth hs x).length) hs.length

set_option maxRecDepth 100000 in
set_option maxHeartbeats 12800000 in
theorem postViews_any (A1 A2 A3 A4 A5 A6 A7 : Option Addr) (n1 n2 n3 n4 n6 n7 c1 c2 c3 c4 c5 c6 c7 : Nat) (nx : Int) (O : Option Addr) (os : List Int) (co : Nat) (hs : List (List PostD)) (S : Nat → Prop) (w : World) (hS : ∀ b, S b → b < w.heap.size) (hn1 : hs.length = n1) (hh : HistsAt w S A5 hs) (ho : IntsAt w S O os) :
    Calls Try.prog 164 #[.agg #[.slice A1 n1 c1, .slice A2 n2 c2, .slice A3 n3 c3, .slice A4 n4 c4, .slice A5 hs.length c5, .slice A6 n6 c6, .slice A7 n7 c7, .int .i64 nx], .slice O os.length co] w fun e w' => e = .returned (.bool (pvsB n1 os hs)) ∧ Below w.heap.size w w' := by
  have hn := hh.1
  replace hh := hide hh
  replace ho := hide ho
  replace hn1 := hide hn1
  have K0 := hide (Blk.new w 144 #[.slice A1 n1 c1, .slice A2 n2 c2, .slice A3 n3 c3, .slice A4 n4 c4, .slice A5 hs.length c5, .slice A6 n6 c6, .slice A7 n7 c7, .int .i64 nx])
  have hb0 := hide (below1 w (Obj.cells #[.slice A1 n1 c1, .slice A2 n2 c2, .slice A3 n3 c3, .slice A4 n4 c4, .slice A5 hs.length c5, .slice A6 n6 c6, .slice A7 n7 c7, .int .i64 nx] 144))
  go_enter Try.func164, Try.ntmps164
  go_wp2_with fail
  obtain ⟨w1, hw1⟩ : ∃ wq, wq = w.alloc (Obj.cells #[.slice A1 n1 c1, .slice A2 n2 c2, .slice A3 n3 c3, .slice A4 n4 c4, .slice A5 hs.length c5, .slice A6 n6 c6, .slice A7 n7 c7, .int .i64 nx] 144) := ⟨_, rfl⟩
  rw [← hw1] at K0 hb0 ⊢
  clear hw1
  have hl1 := K0.out.lt
  go_loopw [12] (fun i wr => ∃ (x : Nat), x ≤ hs.length ∧ i = .int .i64 x ∧ Hid (∀ j, j < x → allB (fun k => pvB n1 os j (getp (geth hs j) k)) (geth hs j).length = true) ∧ Hid (Below w1.heap.size w1 wr)) (fun i _ => hs.length - (intOf i).toNat)
  case atStart => exact ⟨0, Nat.zero_le _, rfl, hide (fun j hj => by omega), hide (Below.refl _ _)⟩
  case round =>
    obtain ⟨x, hx, rfl, hdone, hb⟩ := hrel
    have hbw := hide (hb0.out.trans (hb.out.mono (by omega)))
    by_cases hlt : x < hs.length
    · obtain ⟨b, off, rfl, hSb, hc⟩ := (hh.out.below hbw.out hS).2 (by omega)
      obtain ⟨A', c', hcell, hcap, hp⟩ := hc x hlt
      have hlt' : (x : Int) < (hs.length : Int) := by omega
      have hx0 : (0 : Int) ≤ (x : Int) := by omega
      have hbl := Nat.lt_of_lt_of_le (hS b hSb) hbw.out.size
      obtain ⟨l, hl⟩ : ∃ l, l = geth hs x := ⟨_, rfl⟩
      rw [← hl] at hcell hcap hp
      have hln := hp.1
      replace hp := hide hp
      replace hl := hide hl
      have hb2 := hide (hb.out.alloc hb.out.size (Obj.cells #[.slice A' l.length c'] 84))
      obtain ⟨w2, hw2⟩ : ∃ wq, wq = wr.alloc (Obj.cells #[.slice A' l.length c'] 84) := ⟨_, rfl⟩
      have hb12 : Below wr.heap.size wr w2 := by rw [hw2]; exact below1 _ _
      rw [← hw2] at hb2
      clear hc
      go_wp2_with fail
      rw [← hw2]
      clear hw2
      have hP2 := hide (hp.out.below hb12 (fun b h => Nat.lt_of_lt_of_le (hS b h) hbw.out.size))
      have hbw2 := hide (below_then hbw.out hb12)
      clear hp hb12 hcell
      go_loopw [20] (fun i ws => ∃ (k : Nat), k ≤ l.length ∧ i = .int .i64 k ∧ Hid (∀ j, j < k → pvB n1 os x (getp l j) = true) ∧ Hid (Below w2.heap.size w2 ws)) (fun i _ => l.length - (intOf i).toNat)
      case atStart => exact ⟨0, Nat.zero_le _, rfl, hide (fun j hj => by omega), hide (Below.refl _ _)⟩
      case round =>
        obtain ⟨k, hk, rfl, hdk, hbk⟩ := hrel
        have hz2 := hb2.out.size
        have hb3 := hide (hb2.out.trans (hbk.out.mono hz2))
        have hbw3 := hide (hbw2.out.trans (hbk.out.mono hbw2.out.size))
        by_cases hkl : k < l.length
        · obtain ⟨b2, off2, rfl, hSb2, hc2⟩ := (hP2.out.below hbk.out (fun b h => Nat.lt_of_lt_of_le (hS b h) hbw2.out.size)).2 (by omega)
          obtain ⟨V, cv, ⟨p0, p1, p2, p3⟩, hcv, hi⟩ := hc2 k hkl
          have hkl' : (k : Int) < (l.length : Int) := by omega
          obtain ⟨d, hd⟩ : ∃ d, d = getp l k := ⟨_, rfl⟩
          rw [← hd] at p0 p1 p2 p3 hcv hi
          replace hd := hide hd
          have hzw := hbw3.out.size
          obtain ⟨wt, hwt⟩ : ∃ wq, wq = wr.alloc (Obj.cells #[.int .i64 d.id, .int .i64 d.val, .bool d.glue, .slice V d.view.length cv] 86) := ⟨_, rfl⟩
          have hbt : Below wr.heap.size wr wt.drew := by rw [hwt]; exact (below1 _ _).drew
          have R0 := hide (show PvR w S w.heap.size wr.heap.size cv #[.slice A1 n1 c1, .slice A2 n2 c2, .slice A3 n3 c3, .slice A4 n4 c4, .slice (some ⟨b, off, none⟩) hs.length c5, .slice A6 n6 c6, .slice A7 n7 c7, .int .i64 nx] d V O os wt.drew from
            ⟨((K0.out.below hb3.out hl1).below hbt (by have := hb3.out.size; omega)), by rw [hwt]; exact Blk.new _ _ _, hi.below hbt (fun b h => Nat.lt_of_lt_of_le (hS b h) hzw), (ho.out.below hbw3.out hS).below hbt (fun b h => Nat.lt_of_lt_of_le (hS b h) hzw), below_then hbw3.out hbt, hS⟩)
          have hb4 := hide (hbk.out.trans (hbt.mono hbk.out.size))
          clear hc2
          go_wp2_with fail
          rw [← hwt]
          obtain ⟨U, hU⟩ : ∃ U, U = wr.heap.size := ⟨_, rfl⟩
          rw [← hU] at R0 ⊢
          clear hwt hU p0 p1 p2 p3 hbt hi
          have hz4 := hb4.out.size
          cases hv : ownB n1 os d.view
          · have hE := hide (show pvsB n1 os hs = false from allB_no hlt (by rw [← hl.out]; exact allB_no hkl (by rw [← hd.out]; unfold pvB; rw [hv]; rfl)))
            refine wp_region_held_drew (S := (fun w' => (w'.cell? ⟨w.heap.size, 0, none⟩ = some (.slice A1 n1 c1) ∧ w'.cell? ⟨w.heap.size, 1, none⟩ = some (.slice A2 n2 c2) ∧ w'.cell? ⟨w.heap.size, 2, none⟩ = some (.slice A3 n3 c3) ∧ w'.cell? ⟨w.heap.size, 3, none⟩ = some (.slice A4 n4 c4) ∧ w'.cell? ⟨w.heap.size, 4, none⟩ = some (.slice (some ⟨b, off, none⟩) hs.length c5) ∧ w'.cell? ⟨w.heap.size, 5, none⟩ = some (.slice A6 n6 c6) ∧ w'.cell? ⟨w.heap.size, 6, none⟩ = some (.slice A7 n7 c7) ∧ w'.cell? ⟨w.heap.size, 7, none⟩ = some (.int .i64 nx)) ∧ (w'.cell? ⟨U, 0, none⟩ = some (.int .i64 d.id) ∧ w'.cell? ⟨U, 1, none⟩ = some (.int .i64 d.val) ∧ w'.cell? ⟨U, 2, none⟩ = some (.bool d.glue) ∧ w'.cell? ⟨U, 3, none⟩ = some (.slice V d.view.length cv)))) (by kernel_rfl) ?_ (fun hHeld => ?_)
            · exact ⟨vs8 R0.out.vs, po4 R0.out.po⟩
            refine wpAnyH_take (i := 0) (oi := { dst := some 24, op := Op.load 144 (Operand.tmp 2), type := 144, pos := "l02_state.go:300", after := #[], guard := none }) (v := ?_) rfl (by kernel_rfl) (by kernel_rfl) (by kernel_rfl) (fun _ _ _ h => h) (Or.inl ⟨by rfl, ?_⟩) hHeld ?_
            rotate_left
            · (intro wq hSw; (try dsimp only at hSw); first | (go_simp; done) | (go_simp; with_reducible rfl))
            try simp only [Act.put, qa, qb, qc]
            refine wpAnyH_take (i := 1) (oi := { dst := some 25, op := Op.fieldAddr 86 (Operand.tmp 8) 3, type := 0, pos := "l02_state.go:300", after := #[], guard := none }) (v := ?_) rfl (by kernel_rfl) (by kernel_rfl) (by kernel_rfl) (fun _ _ _ h => h) (Or.inl ⟨by rfl, ?_⟩) hHeld ?_
            rotate_left
            · (intro wq hSw; (try dsimp only at hSw); first | (go_simp; done) | (go_simp; with_reducible rfl))
            try simp only [Act.put, qa, qb, qc]
            refine wpAnyH_take (i := 2) (oi := { dst := some 26, op := Op.load 22 (Operand.tmp 25), type := 22, pos := "l02_state.go:300", after := #[{ on := 1, ground := Ground.data }], guard := none }) (v := ?_) rfl (by kernel_rfl) (by kernel_rfl) (by kernel_rfl) (fun _ _ _ h => h) (Or.inl ⟨by rfl, ?_⟩) hHeld ?_
            rotate_left
            · (intro wq hSw; (try dsimp only at hSw); first | (go_simp; done) | (go_simp; with_reducible rfl))
            try simp only [Act.put, qa, qb, qc]
            refine wpAnyH_take (i := 3) (oi := { dst := some 27, op := Op.move (Operand.tmp 1), type := 201, pos := "l02_state.go:300", after := #[], guard := none }) (v := ?_) rfl (by kernel_rfl) (by kernel_rfl) (by kernel_rfl) (fun _ _ _ h => h) (Or.inl ⟨by rfl, ?_⟩) hHeld ?_
            rotate_left
            · (intro wq hSw; (try dsimp only at hSw); first | (go_simp; done) | (go_simp; with_reducible rfl))
            try simp only [Act.put, qa, qb, qc]
            refine wpAnyH_ready (rs := [4]) (by kernel_rfl) (by simp) ?_
            refine AllReadyH.cons (o := { dst := some 28, op := Op.call { callee := Callee.value (Operand.func 166), args := #[Operand.tmp 24, Operand.tmp 26, Operand.tmp 27], argTypes := #[144, 22, 201] }, type := 4, pos := "l02_state.go:300", after := #[{ on := 0, ground := Ground.data }, { on := 2, ground := Ground.data }, { on := 3, ground := Ground.data }], guard := none }) rfl (fun K hK => ?_) AllReadyH.nil
            go_simp
            go_at_call 166; refine (viewOk_any A1 A2 A3 A4 (some ⟨b, off, none⟩) A6 A7 n1 n2 n3 n4 hs.length n6 n7 c1 c2 c3 c4 c5 c6 c7 nx V O d.view os cv co S _ (fun b h => Nat.lt_of_lt_of_le (hS b h) R0.out.base.size) (R0.out.vi) (R0.out.oi)).mono ?_; rintro e w9 ⟨rfl, hb9⟩; have R1 := hide (R0.out.next hb9)
            refine hK.out _ _ ?_ (fun hHeldN => ?_)
            · exact ⟨vs8 R1.out.vs, po4 R1.out.po⟩
            clear hK K hHeld
            have hHeld := hHeldN
            clear hHeldN
            try simp only [Act.put, qa, qb, qc]
            refine wpAnyH_take (i := 5) (oi := { dst := some 29, op := Op.unOp UnOp.not 4 (Operand.tmp 28), type := 4, pos := "l02_state.go:300", after := #[{ on := 4, ground := Ground.data }], guard := none }) (v := ?_) rfl (by kernel_rfl) (by kernel_rfl) (by kernel_rfl) (fun _ _ _ h => h) (Or.inl ⟨by rfl, ?_⟩) hHeld ?_
            rotate_left
            · (intro wq hSw; (try dsimp only at hSw); first | (go_simp; done) | (go_simp; with_reducible rfl))
            try simp only [Act.put, qa, qb, qc]
            refine wpAnyH_take (i := 6) (oi := { dst := some 30, op := Op.move (Operand.tmp 29), type := 4, pos := "l02_state.go:300", after := #[{ on := 5, ground := Ground.data }, { on := 4, ground := Ground.chain }], guard := none }) (v := ?_) rfl (by kernel_rfl) (by kernel_rfl) (by kernel_rfl) (fun _ _ _ h => h) (Or.inl ⟨by rfl, ?_⟩) hHeld ?_
            rotate_left
            · (intro wq hSw; (try dsimp only at hSw); first | (go_simp; done) | (go_simp; with_reducible rfl))
            try simp only [Act.put, qa, qb, qc]
            refine wpAnyH_take (i := 7) (oi := { dst := some 31, op := Op.fieldAddr 86 (Operand.tmp 8) 3, type := 0, pos := "l02_state.go:300", after := #[{ on := 6, ground := Ground.guard }], guard := some (6, false) }) (v := undef) rfl (by kernel_rfl) (by kernel_rfl) (by kernel_rfl) (fun _ _ _ h => h) (Or.inr ⟨by rfl, rfl⟩) hHeld ?_
            try simp only [Act.put, qa, qb, qc]
            refine wpAnyH_take (i := 8) (oi := { dst := some 32, op := Op.load 22 (Operand.tmp 31), type := 22, pos := "l02_state.go:300", after := #[{ on := 7, ground := Ground.data }, { on := 6, ground := Ground.guard }], guard := some (6, false) }) (v := undef) rfl (by kernel_rfl) (by kernel_rfl) (by kernel_rfl) (fun _ _ _ h => h) (Or.inr ⟨by rfl, rfl⟩) hHeld ?_
            try simp only [Act.put, qa, qb, qc]
            refine wpAnyH_take (i := 9) (oi := { dst := some 33, op := Op.move (Operand.tmp 5), type := 3, pos := "l02_state.go:300", after := #[{ on := 6, ground := Ground.guard }], guard := some (6, false) }) (v := undef) rfl (by kernel_rfl) (by kernel_rfl) (by kernel_rfl) (fun _ _ _ h => h) (Or.inr ⟨by rfl, rfl⟩) hHeld ?_
            try simp only [Act.put, qa, qb, qc]
            refine wpAnyH_take (i := 10) (oi := { dst := some 34, op := Op.indexAddr 22 (Operand.tmp 32) (Operand.tmp 33), type := 0, pos := "l02_state.go:300", after := #[{ on := 8, ground := Ground.data }, { on := 9, ground := Ground.data }, { on := 6, ground := Ground.guard }], guard := some (6, false) }) (v := undef) rfl (by kernel_rfl) (by kernel_rfl) (by kernel_rfl) (fun _ _ _ h => h) (Or.inr ⟨by rfl, rfl⟩) hHeld ?_
            try simp only [Act.put, qa, qb, qc]
            refine wpAnyH_take (i := 11) (oi := { dst := some 35, op := Op.load 3 (Operand.tmp 34), type := 3, pos := "l02_state.go:300", after := #[{ on := 10, ground := Ground.data }, { on := 6, ground := Ground.guard }], guard := some (6, false) }) (v := undef) rfl (by kernel_rfl) (by kernel_rfl) (by kernel_rfl) (fun _ _ _ h => h) (Or.inr ⟨by rfl, rfl⟩) hHeld ?_
            try simp only [Act.put, qa, qb, qc]
            refine wpAnyH_take (i := 12) (oi := { dst := some 36, op := Op.fieldAddr 86 (Operand.tmp 8) 0, type := 0, pos := "l02_state.go:300", after := #[{ on := 6, ground := Ground.guard }], guard := some (6, false) }) (v := undef) rfl (by kernel_rfl) (by kernel_rfl) (by kernel_rfl) (fun _ _ _ h => h) (Or.inr ⟨by rfl, rfl⟩) hHeld ?_
            try simp only [Act.put, qa, qb, qc]
            refine wpAnyH_take (i := 13) (oi := { dst := some 37, op := Op.load 3 (Operand.tmp 36), type := 3, pos := "l02_state.go:300", after := #[{ on := 12, ground := Ground.data }, { on := 6, ground := Ground.guard }], guard := some (6, false) }) (v := undef) rfl (by kernel_rfl) (by kernel_rfl) (by kernel_rfl) (fun _ _ _ h => h) (Or.inr ⟨by rfl, rfl⟩) hHeld ?_
            try simp only [Act.put, qa, qb, qc]
            refine wpAnyH_take (i := 14) (oi := { dst := some 38, op := Op.binOp BinOp.neq 3 (Operand.tmp 35) (Operand.tmp 37) 3, type := 4, pos := "l02_state.go:300", after := #[{ on := 11, ground := Ground.data }, { on := 13, ground := Ground.data }, { on := 6, ground := Ground.guard }], guard := some (6, false) }) (v := undef) rfl (by kernel_rfl) (by kernel_rfl) (by kernel_rfl) (fun _ _ _ h => h) (Or.inr ⟨by rfl, rfl⟩) hHeld ?_
            try simp only [Act.put, qa, qb, qc]
            refine wpAnyH_take (i := 15) (oi := { dst := some 39, op := Op.pick (Operand.tmp 30) (Operand.const (Value.bool true)) (Operand.tmp 38), type := 4, pos := "l02_state.go:300", after := #[{ on := 6, ground := Ground.data }, { on := 14, ground := Ground.data }], guard := none }) (v := ?_) rfl (by kernel_rfl) (by kernel_rfl) (by kernel_rfl) (fun _ _ _ h => h) (Or.inl ⟨by rfl, ?_⟩) hHeld ?_
            rotate_left
            · (intro wq hSw; (try dsimp only at hSw); first | (go_simp; done) | (go_simp; with_reducible rfl))
            try simp only [Act.put, qa, qb, qc]
            refine wpAnyH_done (by kernel_rfl) ?_ _
            all_goals
              have hbE := hide (hb2.out.trans ((hb4.out.trans (hb9.mono hz4)).mono hz2))
              go_wp2_with fail
              go_ret
              exact ⟨ret_bool hE.out.symm, hb0.out.trans (hbE.out.mono (by omega))⟩
          · have hvl : d.view.length = n1 := by
              unfold ownB at hv
              simp at hv
              exact hv.1
            obtain ⟨bv, ov, rfl, hSv, hcv2⟩ := R0.out.vi.2 (by have := hn1.out; omega)
            have hcell2 := hcv2 x (by have := hn1.out; omega)
            have hxl : (x : Int) < (d.view.length : Int) := by have := hn1.out; omega
            have hbv : bv < wt.drew.heap.size := Nat.lt_of_lt_of_le (hS bv hSv) R0.out.base.size
            have R0c := hide (show (fun w' => (w'.cell? ⟨w.heap.size, 0, none⟩ = some (.slice A1 n1 c1) ∧ w'.cell? ⟨w.heap.size, 1, none⟩ = some (.slice A2 n2 c2) ∧ w'.cell? ⟨w.heap.size, 2, none⟩ = some (.slice A3 n3 c3) ∧ w'.cell? ⟨w.heap.size, 3, none⟩ = some (.slice A4 n4 c4) ∧ w'.cell? ⟨w.heap.size, 4, none⟩ = some (.slice (some ⟨b, off, none⟩) hs.length c5) ∧ w'.cell? ⟨w.heap.size, 5, none⟩ = some (.slice A6 n6 c6) ∧ w'.cell? ⟨w.heap.size, 6, none⟩ = some (.slice A7 n7 c7) ∧ w'.cell? ⟨w.heap.size, 7, none⟩ = some (.int .i64 nx)) ∧ (w'.cell? ⟨U, 0, none⟩ = some (.int .i64 d.id) ∧ w'.cell? ⟨U, 1, none⟩ = some (.int .i64 d.val) ∧ w'.cell? ⟨U, 2, none⟩ = some (.bool d.glue) ∧ w'.cell? ⟨U, 3, none⟩ = some (.slice (some ⟨bv, ov, none⟩) d.view.length cv)) ∧ w'.cell? ⟨bv, ov + x, none⟩ = some (.int .i64 (geti d.view x))) wt.drew from ⟨vs8 R0.out.vs, po4 R0.out.po, hcell2⟩)
            replace hvl := hide hvl
            clear hcv2
            by_cases he : geti d.view x = d.id
            all_goals
              first | have hne : (geti d.view x != d.id) = false := by simp [he]
                    | have hne : (geti d.view x != d.id) = true := by rw [bne_iff_ne]; exact he
              go_region_held3 (fun w' => (w'.cell? ⟨w.heap.size, 0, none⟩ = some (.slice A1 n1 c1) ∧ w'.cell? ⟨w.heap.size, 1, none⟩ = some (.slice A2 n2 c2) ∧ w'.cell? ⟨w.heap.size, 2, none⟩ = some (.slice A3 n3 c3) ∧ w'.cell? ⟨w.heap.size, 3, none⟩ = some (.slice A4 n4 c4) ∧ w'.cell? ⟨w.heap.size, 4, none⟩ = some (.slice (some ⟨b, off, none⟩) hs.length c5) ∧ w'.cell? ⟨w.heap.size, 5, none⟩ = some (.slice A6 n6 c6) ∧ w'.cell? ⟨w.heap.size, 6, none⟩ = some (.slice A7 n7 c7) ∧ w'.cell? ⟨w.heap.size, 7, none⟩ = some (.int .i64 nx)) ∧ (w'.cell? ⟨U, 0, none⟩ = some (.int .i64 d.id) ∧ w'.cell? ⟨U, 1, none⟩ = some (.int .i64 d.val) ∧ w'.cell? ⟨U, 2, none⟩ = some (.bool d.glue) ∧ w'.cell? ⟨U, 3, none⟩ = some (.slice (some ⟨bv, ov, none⟩) d.view.length cv)) ∧ w'.cell? ⟨bv, ov + x, none⟩ = some (.int .i64 (geti d.view x)))
                (first | exact R0c.out | exact R1c.out)
                (first
                | (go_at_call 166; refine (viewOk_any A1 A2 A3 A4 (some ⟨b, off, none⟩) A6 A7 n1 n2 n3 n4 hs.length n6 n7 c1 c2 c3 c4 c5 c6 c7 nx (some ⟨bv, ov, none⟩) O d.view os cv co S _ (fun b h => Nat.lt_of_lt_of_le (hS b h) R0.out.base.size) (R0.out.vi) (R0.out.oi)).mono ?_; rintro e w9 ⟨rfl, hb9⟩; have R1 := hide (R0.out.next hb9); have R1c := hide (show (fun w' => (w'.cell? ⟨w.heap.size, 0, none⟩ = some (.slice A1 n1 c1) ∧ w'.cell? ⟨w.heap.size, 1, none⟩ = some (.slice A2 n2 c2) ∧ w'.cell? ⟨w.heap.size, 2, none⟩ = some (.slice A3 n3 c3) ∧ w'.cell? ⟨w.heap.size, 3, none⟩ = some (.slice A4 n4 c4) ∧ w'.cell? ⟨w.heap.size, 4, none⟩ = some (.slice (some ⟨b, off, none⟩) hs.length c5) ∧ w'.cell? ⟨w.heap.size, 5, none⟩ = some (.slice A6 n6 c6) ∧ w'.cell? ⟨w.heap.size, 6, none⟩ = some (.slice A7 n7 c7) ∧ w'.cell? ⟨w.heap.size, 7, none⟩ = some (.int .i64 nx)) ∧ (w'.cell? ⟨U, 0, none⟩ = some (.int .i64 d.id) ∧ w'.cell? ⟨U, 1, none⟩ = some (.int .i64 d.val) ∧ w'.cell? ⟨U, 2, none⟩ = some (.bool d.glue) ∧ w'.cell? ⟨U, 3, none⟩ = some (.slice (some ⟨bv, ov, none⟩) d.view.length cv)) ∧ w'.cell? ⟨bv, ov + x, none⟩ = some (.int .i64 (geti d.view x))) w9 from ⟨vs8 R1.out.vs, po4 R1.out.po, (hb9.cell (p := ⟨bv, ov + x, none⟩) hbv).trans hcell2⟩)))
            · have hbE := hide (hb4.out.trans (hb9.mono hz4))
              clear R0 R0c R1 R1c hb9
              go_wp2_with fail
              go_roundw
              case rel => exact ⟨k + 1, by omega, by go_num, hide (fun j hj => by
                rcases Nat.lt_succ_iff_lt_or_eq.1 hj with h | rfl
                · exact hdk.out j h
                · rw [← hd.out]; unfold pvB; rw [hv]; simp [he]), hbE⟩
              case measure => simp [intOf]; omega
            · have hE := hide (show pvsB n1 os hs = false from allB_no hlt (by rw [← hl.out]; exact allB_no hkl (by rw [← hd.out]; unfold pvB; simp [he])))
              have hbE := hide (hb2.out.trans ((hb4.out.trans (hb9.mono hz4)).mono hz2))
              clear R0 R0c R1 R1c hb9
              go_wp2_with fail
              go_ret
              exact ⟨ret_bool hE.out.symm, hb0.out.trans (hbE.out.mono (by omega))⟩
        · obtain rfl : k = l.length := by omega
          go_wp2_with fail
          go_roundw
          case rel => exact ⟨x + 1, by omega, by go_num, hide (fun j hj => by
            rcases Nat.lt_succ_iff_lt_or_eq.1 hj with h | rfl
            · exact hdone.out j h
            · rw [← hl.out]; exact allB_yes hdk.out), hb3⟩
          case measure => simp [intOf]; omega
    · obtain rfl : x = hs.length := by omega
      have hE := hide (show pvsB n1 os hs = true from allB_yes hdone.out)
      go_wp2_with fail
      go_ret
      exact ⟨ret_bool hE.out.symm, hbw.out⟩
end Go.Proofs.Ytfkaacfeikmabaa
