/- slices.Backward over a row of jobs. -/
import Derived.Test.YtfnphnjadknoaaaMp0
import Derived.Test.YtfnphnjadknoaaaMp3
import Derived.Test.YtfnphnjadknoaaaMp13
import Derived.RangeFuncNested
import Derived.RangeFuncBound
import Derived.RangeFuncCalls
import Derived.RangeFuncLeaves
import Derived.RangeFuncBox
import Derived.Shelf.Abstract
import Derived.Shelf.RegionOpen
import Derived.OwnWalkIn
import Derived.TacticsInMore
import Derived.LoopNIn
import Derived.LoopIn
namespace Go.Proofs.Ytfnphnjadknoaaa
open Go.RowKit

set_option maxHeartbeats 1600000 in
theorem index_any (A : Option Addr) (zs : List Int) (c : Nat) (v : Int) (S : Nat → Prop) (w : World) (ha : IntsAt w S A zs) :
    Calls Try.prog 129 #[.slice A zs.length c, .int .i64 v] w fun e w' => (∃ r : Int, e = .returned (.int .i64 r) ∧ -1 ≤ r ∧ (0 ≤ r ↔ v ∈ zs)) ∧ w = w' := by
  have hl := ha.1
  go_enter Try.func129, Try.ntmps129
  go_wp2_with fail
  go_loop [8] (fun i => ∃ k : Nat, k ≤ zs.length ∧ i = .int .i64 k ∧ Hid (∀ j, j < k → geti zs j ≠ v)) (fun i => zs.length - (intOf i).toNat)
  case atStart => exact ⟨0, by omega, rfl, hide (fun j hj => by omega)⟩
  case round =>
    obtain ⟨k, hk, rfl, hall⟩ := hrel
    by_cases hlt : k < zs.length
    · obtain ⟨b, off, rfl, hb, hc⟩ := ha.at_ hlt
      have hlt' : (k : Int) < zs.length := by omega
      obtain ⟨z, hz⟩ : ∃ z, z = geti zs k := ⟨_, rfl⟩
      rw [← hz] at hc
      replace hz := hide hz
      by_cases hv : v = z
      · have hM := hide (show v ∈ zs from by rw [hv, hz.out, geti_eq hlt]; exact List.getElem_mem _)
        subst hv
        go_wp2_with fail
        go_ret
        exact ⟨⟨_, rfl, by omega, ⟨fun _ => hM.out, fun _ => by omega⟩⟩, rfl⟩
      · have hv' : decide (v = z) = false := decide_eq_false hv
        have hall2 := hide (show ∀ j, j < k + 1 → geti zs j ≠ v from fun j hj => by
          rcases Nat.lt_or_ge j k with h | h
          · exact hall.out j h
          · obtain rfl : j = k := by omega
            rw [← hz.out]; exact fun e => hv e.symm)
        go_wp2_with fail
        go_round
        case rel => exact ⟨k + 1, by omega, by go_num, hall2⟩
        case measure => simp [intOf]; omega
    · obtain rfl : k = zs.length := by omega
      have hM := hide (show ¬ v ∈ zs from fun h => by
        obtain ⟨j, hj, e⟩ := List.getElem_of_mem h
        exact hall.out j hj (by rw [geti_eq hj]; exact e))
      go_wp2_with fail
      go_ret
      exact ⟨⟨_, rfl, by omega, ⟨fun h => absurd h (by omega), fun h => absurd h hM.out⟩⟩, rfl⟩

set_option maxHeartbeats 800000 in
theorem contains_any (A : Option Addr) (zs : List Int) (c : Nat) (v : Int) (S : Nat → Prop) (w : World) (ha : IntsAt w S A zs) :
    Calls Try.prog 115 #[.slice A zs.length c, .int .i64 v] w fun e w' => e = .returned (.bool (decide (v ∈ zs))) ∧ w = w' := by
  have hI := hide (index_any A zs c v S w ha)
  clear ha
  by_cases hm : v ∈ zs
  · have hE := hide (decide_eq_true hm)
    go_enter Try.func115, Try.ntmps115
    go_wp2_with (go_at_call 129; refine hI.out.mono ?_; rintro e w' ⟨⟨r, rfl, -, h2⟩, rfl⟩; have hr := h2.2 hm; clear h2)
    go_ret
    exact ⟨ret_bool (by rw [hE.out]), rfl⟩
  · have hE := hide (decide_eq_false hm)
    go_enter Try.func115, Try.ntmps115
    go_wp2_with (go_at_call 129; refine hI.out.mono ?_; rintro e w' ⟨⟨r, rfl, -, h2⟩, rfl⟩; have hr : r < 0 := Int.not_le.1 (fun h => hm (h2.1 h)); clear h2)
    go_ret
    exact ⟨ret_bool (by rw [hE.out]; exact decide_eq_false (by omega)), rfl⟩
theorem contains_n (A : Option Addr) (zs : List Int) (n c : Nat) (v : Int) (S : Nat → Prop) (w : World) (hn : zs.length = n) (ha : IntsAt w S A zs) :
    Calls Try.prog 115 #[.slice A n c, .int .i64 v] w fun e w' => e = .returned (.bool (decide (v ∈ zs))) ∧ w = w' := by
  subst hn
  exact contains_any A zs c v S w ha
theorem repeat_q (b off c n : Nat) (z : Int) (w : World) (h1 : 1 ≤ n) (hn : n ≤ 30) (hb : b < w.heap.size) (hc : w.cell? ⟨b, off, none⟩ = some (.int .i64 z)) :
    Calls Try.prog 114 #[.slice (some ⟨b, off, none⟩) 1 c, .int .i64 n] w fun e w' => ∃ q, e = .returned (.slice (some ⟨q, 0, none⟩) n n) ∧ FnAt w' q n (fun _ => z) ∧ w.heap.size ≤ q ∧ Below w.heap.size w w' :=
  (repeat_any b off c n z w h1 hn hb hc).mono fun _ _ h => ⟨_, h.1, h.2.1, Nat.le_refl _, h.2.2⟩

def ParR (l : List JobD) (w w' : World) (e : Ending) : Prop :=
  ((jobsB l = true ∧ ∃ q, e = .returned (.tuple #[.slice (some ⟨q, 0, none⟩) l.length l.length, .bool true]) ∧ FnAt w' q l.length (fun m => parI l l.length (m : Int)) ∧ w.heap.size ≤ q) ∨ (jobsB l = false ∧ e = .returned (.tuple #[.slice none 0 0, .bool false]))) ∧ Below w.heap.size w w'

set_option maxHeartbeats 6400000 in
theorem parentsOf_any (A : Option Addr) (l : List JobD) (c : Nat) (S : Nat → Prop) (w : World) (hsz : ∀ k, (getj l k).ks.length ≤ 1048576) (hS : ∀ b, S b → b < w.heap.size) (ha : JobsAt w S A l) :
    Calls Try.prog 74 #[.slice A l.length c] w fun e w' => ParR l w w' e := by
  have hl := ha.1
  by_cases h0 : l.length < 1
  · have hE := hide (jobsB_len (.inl h0))
    have h1 : (l.length : Int) < 1 := by omega
    go_enter Try.func74, Try.ntmps74
    go_wp2_with fail
    refine bodyPost_ret (v := .tuple #[.slice none 0 0, .bool false]) (by simp [results, Try.results74, go_sem]; done) rfl ?_
    exact ⟨.inr ⟨hE.out, rfl⟩, Below.refl _ _⟩
  · have h1 : decide ((l.length : Int) < 1) = false := decide_eq_false (by omega)
    by_cases h30 : 30 < l.length
    · have hE := hide (jobsB_len (.inr h30))
      have h2 : (30 : Int) < l.length := by omega
      go_enter Try.func74, Try.ntmps74
      go_wp2_with fail
      refine bodyPost_ret (v := .tuple #[.slice none 0 0, .bool false]) (by simp [results, Try.results74, go_sem]; done) rfl ?_
      exact ⟨.inr ⟨hE.out, rfl⟩, Below.refl _ _⟩
    · have h2 : decide ((30 : Int) < l.length) = false := decide_eq_false (by omega)
      have hbA := hide (below1 w (Obj.cells #[.int .i64 (-1)] 3))
      have hcR := hide (repeat_q w.heap.size 0 1 l.length (-1) (w.alloc (Obj.cells #[.int .i64 (-1)] 3)) (by omega) (by omega) (by simp) ((Blk.new w 3 #[.int .i64 (-1)]).cell 0))
      go_enter Try.func74, Try.ntmps74
      go_wp2_with (go_at_call 114; refine hcR.out.mono ?_; rintro e w1 ⟨q, rfl, F, hq, B⟩)
      have F0 := hide (F.congr (f' := fun m => parI l 0 (m : Int)) (fun _ _ => rfl))
      have B0 := hide (below_then hbA.out B)
      have hqw := hide (show w.heap.size ≤ q from by have := hbA.out.size; omega)
      clear F B hq hbA hcR
      go_wp2_with fail
      go_loopw [23] (fun i wr => ∃ J : Nat, J ≤ l.length ∧ i = .int .i64 J ∧ Hid (FnAt wr q l.length (fun m => parI l J (m : Int))) ∧ Hid (Below w.heap.size w wr) ∧ Hid (∀ i, i < J → ∀ k, k < (getj l i).ks.length → (i : Int) < geti (getj l i).ks k ∧ geti (getj l i).ks k < l.length) ∧ Hid (∀ m : Nat, m < l.length → cntJ l J (m : Int) ≤ 1)) (fun i _ => l.length - (intOf i).toNat)
      case atStart => exact ⟨0, by omega, rfl, F0, B0, hide (fun i hi => by omega), hide (fun m _ => by rw [cntJ_zero]; omega)⟩
      case round =>
        clear F0 B0
        obtain ⟨J, hJ, rfl, F, B, K, U⟩ := hrel
        by_cases hlt : J < l.length
        · have hlt' : (J : Int) < l.length := by omega
          have hkn : (getj l J).ks.length ≤ 1048576 := hsz J
          obtain ⟨b, off, rfl, hb, hv, A', c', h3, -, h4⟩ := ha.at_ hlt
          replace hv := (B.out.cell (p := ⟨b, off + J * 2, none⟩) (hS b hb)).trans hv
          replace h3 := (B.out.cell (p := ⟨b, off + J * 2 + 1, none⟩) (hS b hb)).trans h3
          replace h4 := hide h4
          have hbl : b < wr.heap.size := Nat.lt_of_lt_of_le (hS b hb) B.out.size
          obtain ⟨w2, hw2⟩ : ∃ w2, w2 = wr.alloc (Obj.cells #[.int .i64 (getj l J).v, .slice A' (getj l J).ks.length c'] 42) := ⟨_, rfl⟩
          have hbw := below1 wr (Obj.cells #[.int .i64 (getj l J).v, .slice A' (getj l J).ks.length c'] 42)
          rw [← hw2] at hbw
          have F2 := hide ((F.out.next hbw).congr (f' := fun m => parK l J 0 (m : Int)) (fun m _ => parK_zero l J m))
          have B2 := hide (below_next B.out hbw B.out.size)
          have U2 := hide (show ∀ m : Nat, m < l.length → cntK l J 0 (m : Int) ≤ 1 from fun m hm => by rw [cntK_zero]; exact U.out m hm)
          clear F B hbw U
          go_wp2_with fail
          rw [← hw2]
          clear hw2
          go_loopw [31] (fun i wr => ∃ k : Nat, k ≤ (getj l J).ks.length ∧ i = .int .i64 k ∧ Hid (FnAt wr q l.length (fun m => parK l J k (m : Int))) ∧ Hid (Below w.heap.size w wr) ∧ Hid (∀ m, m < k → (J : Int) < geti (getj l J).ks m ∧ geti (getj l J).ks m < l.length) ∧ Hid (∀ m : Nat, m < l.length → cntK l J k (m : Int) ≤ 1)) (fun i _ => (getj l J).ks.length - (intOf i).toNat)
          case atStart => exact ⟨0, by omega, rfl, F2, B2, hide (fun m hm => by omega), U2⟩
          case round =>
            clear F2 B2 U2 hv h3 hbl
            obtain ⟨k, hk, rfl, F, B, KJ, U⟩ := hrel
            by_cases hlk : k < (getj l J).ks.length
            · obtain ⟨b', off', rfl, hb', h5⟩ := (h4.out.below B.out hS).at_ hlk
              have hlk' : (k : Int) < (getj l J).ks.length := by omega
              obtain ⟨x, hx⟩ : ∃ x, x = geti (getj l J).ks k := ⟨_, rfl⟩
              rw [← hx] at h5
              replace hx := hide hx
              by_cases hx1 : x ≤ J
              · have hE := hide (jobsB_kid hlt hlk (by rw [← hx.out]; exact .inl hx1))
                go_wp2_with fail
                refine bodyPost_ret (v := .tuple #[.slice none 0 0, .bool false]) (by simp [results, Try.results74, go_sem]; done) rfl ?_
                exact ⟨.inr ⟨hE.out, rfl⟩, B.out⟩
              · by_cases hx2 : (l.length : Int) ≤ x
                · have hE := hide (jobsB_kid hlt hlk (by rw [← hx.out]; exact .inr hx2))
                  go_wp2_with fail
                  refine bodyPost_ret (v := .tuple #[.slice none 0 0, .bool false]) (by simp [results, Try.results74, go_sem]; done) rfl ?_
                  exact ⟨.inr ⟨hE.out, rfl⟩, B.out⟩
                · obtain ⟨m, rfl⟩ : ∃ m : Nat, x = m := ⟨x.toNat, by omega⟩
                  have hm : m < l.length := by omega
                  obtain ⟨h6, h7⟩ := F.out.cell hm
                  have hlt6 := F.out.lt
                  obtain ⟨z, hz⟩ : ∃ z, z = parK l J k (m : Int) := ⟨_, rfl⟩
                  rw [← hz] at h6
                  by_cases hz1 : z = -1
                  · have hz2 : parK l J k (geti (getj l J).ks k) = -1 := by rw [← hx.out, ← hz]; exact hz1
                    have F2 := hide (show FnAt (wr.setCell ⟨q, m, none⟩ (.int .i64 (J : Int))) q l.length (fun m => parK l J (k + 1) (m : Int)) from
                      (F.out.set_ hm _).congr (fun m' _ => by
                        rw [parK_succ hlk hz2, ← hx.out]
                        show _ = if m' = m then (J : Int) else parK l J k (m' : Int)
                        by_cases e : m' = m
                        · rw [if_pos e, e, if_pos rfl]
                        · rw [if_neg e, if_neg (by omega)]))
                    have B2 := hide (B.out.setCell (p := ⟨q, m, none⟩) hqw.out (.int .i64 (J : Int)))
                    have K2 := hide (show ∀ m, m < k + 1 → (J : Int) < geti (getj l J).ks m ∧ geti (getj l J).ks m < l.length from fun m' hm' => by
                      rcases Nat.lt_or_ge m' k with h | h
                      · exact KJ.out m' h
                      · obtain rfl : m' = k := by omega
                        rw [← hx.out]; omega)
                    have U2 := hide (show ∀ m : Nat, m < l.length → cntK l J (k + 1) (m : Int) ≤ 1 from fun m' hm' => by
                      rw [cntK_succ hlk, ← hx.out]
                      by_cases e : m' = m
                      · have := (parK_none (by omega) k (geti (getj l J).ks k)).1 hz2
                        rw [← hx.out] at this
                        rw [e, this, if_pos rfl]; omega
                      · rw [if_neg (by omega)]; exact U.out m' hm')
                    subst hz1
                    clear F B KJ U hz hz2
                    go_wp2_with fail
                    go_roundw
                    case rel => exact ⟨k + 1, by omega, by go_num, F2, B2, K2, U2⟩
                    case measure => simp [intOf]; omega
                  · have hE := hide (show jobsB l = false from by
                      refine jobsB_uses (m := m) (by omega) hm ?_
                      have h8 : cntK l J k (m : Int) ≠ 0 := fun e => hz1 (by rw [hz]; exact (parK_none (by omega) k _).2 e)
                      have h9 := cntK_le (K := k + 1) hlt (m : Int)
                      rw [cntK_succ hlk, ← hx.out, if_pos rfl] at h9
                      omega)
                    clear hz U KJ
                    go_wp2_with fail
                    refine bodyPost_ret (v := .tuple #[.slice none 0 0, .bool false]) (by simp [results, Try.results74, go_sem]; done) rfl ?_
                    exact ⟨.inr ⟨hE.out, rfl⟩, B.out⟩
            · have hlk' : decide ((k : Int) < (getj l J).ks.length) = false := decide_eq_false (by omega)
              have F2 := hide (F.out.congr (f' := fun m => parI l (J + 1) (m : Int)) (fun m _ => (parK_all l (by omega) (m : Int)).symm))
              have K2 := hide (show ∀ i, i < J + 1 → ∀ k, k < (getj l i).ks.length → (i : Int) < geti (getj l i).ks k ∧ geti (getj l i).ks k < l.length from fun i hi m hm => by
                rcases Nat.lt_or_ge i J with h | h
                · exact K.out i h m hm
                · obtain rfl : i = J := by omega
                  exact KJ.out m (by omega))
              have U2 := hide (show ∀ m : Nat, m < l.length → cntJ l (J + 1) (m : Int) ≤ 1 from fun m hm => by
                rw [← cntK_all hlt (K := k) (by omega)]; exact U.out m hm)
              clear F KJ K U
              go_wp2_with fail
              go_roundw
              case rel => exact ⟨J + 1, by omega, by go_num, F2, B, K2, U2⟩
              case measure => simp [intOf]; omega
        · obtain rfl : J = l.length := by omega
          have hC := hide (contains_n (if l.length = 1 then some ⟨q, 0, none⟩ else some ⟨q, 1, none⟩) ((List.range (l.length - 1)).map (fun m => parI l l.length ((m + 1 : Nat) : Int))) (l.length - 1) (l.length - 1) (-1) (fun b => b = q) wr (by simp) (by
            refine ⟨by simp; omega, fun hp => ?_⟩
            have hp' : 0 < l.length - 1 := by simpa using hp
            refine ⟨q, 1, if_neg (by omega), rfl, fun k hk => ?_⟩
            have hk' : k < l.length - 1 := by simpa using hk
            rw [Nat.add_comm, (F.out.cell (k := k + 1) (by omega)).1]
            simp [geti, List.getD_eq_getElem?_getD, hk']))
          have hl1 : (1 : Int) ≤ l.length := by omega
          by_cases hm : (-1 : Int) ∈ (List.range (l.length - 1)).map (fun m => parI l l.length ((m + 1 : Nat) : Int))
          · have hE := hide (show jobsB l = false from by
              obtain ⟨m, h1, h2⟩ := List.mem_map.1 hm
              have h1 : m < l.length - 1 := by simpa using h1
              refine jobsB_uses (m := m + 1) (by omega) (by omega) ?_
              rw [(parI_none l (Nat.le_refl _) _).1 h2]
              omega)
            rw [decide_eq_true hm] at hC
            clear hm K U F
            go_wp2_with (go_at_call 115; go_loud (refine hC.out.mono ?_); rintro e w' ⟨rfl, rfl⟩)
            all_goals (
              refine bodyPost_ret (v := .tuple #[.slice none 0 0, .bool false]) (by simp [results, Try.results74, go_sem]; done) rfl ?_
              exact ⟨.inr ⟨hE.out, rfl⟩, B.out⟩)
          · have hE := hide (show jobsB l = true from by
              refine jobsB_yes ⟨by omega, by omega, K.out, fun m h1 h2 => ?_⟩
              have h3 := U.out m h2
              have h4 : cntJ l l.length (m : Int) ≠ 0 := fun e => hm (List.mem_map.2 ⟨m - 1, by simp; omega, by
                rw [show m - 1 + 1 = m by omega]
                exact (parI_none l (Nat.le_refl _) _).2 e⟩)
              omega)
            rw [decide_eq_false hm] at hC
            clear hm K U
            go_wp2_with (go_at_call 115; go_loud (refine hC.out.mono ?_); rintro e w' ⟨rfl, rfl⟩)
            all_goals (
              refine bodyPost_ret (v := .tuple #[.slice (some ⟨q, 0, none⟩) l.length l.length, .bool true]) (by first | (simp [results, Try.results74, go_sem]; done) | (simp [results, Try.results74, go_sem]; omega)) rfl ?_
              exact ⟨.inl ⟨hE.out, q, rfl, F.out, hqw.out⟩, B.out⟩)

set_option maxHeartbeats 800000 in
theorem jobsOk_any (A : Option Addr) (l : List JobD) (c : Nat) (S : Nat → Prop) (w : World) (hsz : ∀ k, (getj l k).ks.length ≤ 1048576) (hS : ∀ b, S b → b < w.heap.size) (ha : JobsAt w S A l) :
    Calls Try.prog 33 #[.slice A l.length c] w fun e w' => e = .returned (.bool (jobsB l)) ∧ Below w.heap.size w w' := by
  have hP := hide (parentsOf_any A l c S w hsz hS ha)
  clear ha
  go_enter Try.func33, Try.ntmps33
  go_wp2_with (go_at_call 74; refine hP.out.mono ?_; rintro e w' ⟨h, hb⟩; rcases h with ⟨hE, q, rfl, -, -⟩ | ⟨hE, rfl⟩)
  · go_ret
    exact ⟨ret_bool hE.symm, hb⟩
  · go_ret
    exact ⟨ret_bool hE.symm, hb⟩
end Go.Proofs.Ytfnphnjadknoaaa

namespace Go.Proofs.Ytfnphnjadknoaaa
open Go.RowKit Go.Shelf

structure JobVs (w : World) (S : Nat → Prop) (b off : Nat) (l : List JobD) (Af : Nat → Option Addr) (cf : Nat → Nat) : Prop where
  mem : 0 < l.length → S b
  val : ∀ k, k < l.length → w.cell? ⟨b, off + k * 2, none⟩ = some (.int .i64 (getj l k).v)
  kids : ∀ k, k < l.length → w.cell? ⟨b, off + k * 2 + 1, none⟩ = some (.slice (Af k) (getj l k).ks.length (cf k))
  ints : ∀ k, k < l.length → IntsAt w S (Af k) (getj l k).ks
theorem JobsAt.vs {w : World} {S : Nat → Prop} {A : Option Addr} {l : List JobD} (h : JobsAt w S A l) (h0 : 0 < l.length) : ∃ b off Af cf, A = some ⟨b, off, none⟩ ∧ S b ∧ JobVs w S b off l Af cf := by
  obtain ⟨b, off, e, hb, hc⟩ := h.2 h0
  have h1 : ∀ k : Nat, ∃ y : Option Addr × Nat, k < l.length → w.cell? ⟨b, off + k * 2, none⟩ = some (.int .i64 (getj l k).v) ∧ w.cell? ⟨b, off + k * 2 + 1, none⟩ = some (.slice y.1 (getj l k).ks.length y.2) ∧ IntsAt w S y.1 (getj l k).ks := fun k => by
    by_cases hk : k < l.length
    · obtain ⟨h1, A', c', h2, h3, h4⟩ := hc k hk
      exact ⟨(A', c'), fun _ => ⟨h1, h2, h4⟩⟩
    · exact ⟨(none, 0), fun h => absurd h hk⟩
  obtain ⟨f, hf⟩ := Classical.axiomOfChoice h1
  exact ⟨b, off, fun k => (f k).1, fun k => (f k).2, e, hb, fun _ => hb, fun k hk => (hf k hk).1, fun k hk => (hf k hk).2.1, fun k hk => (hf k hk).2.2⟩
theorem JobVs.below {w w' : World} {S : Nat → Prop} {B b off : Nat} {l : List JobD} {Af : Nat → Option Addr} {cf : Nat → Nat} (h : JobVs w S b off l Af cf) (hb : Below B w w') (hS : ∀ b, S b → b < B) : JobVs w' S b off l Af cf :=
  ⟨h.mem, fun k hk => (hb.cell (p := ⟨b, _, none⟩) (hS b (h.mem (by omega)))).trans (h.val k hk), fun k hk => (hb.cell (p := ⟨b, _, none⟩) (hS b (h.mem (by omega)))).trans (h.kids k hk), fun k hk => (h.ints k hk).below hb hS⟩
def SameOn (S : Nat → Prop) (W W' : World) : Prop := ∀ b, S b → W'.heap[b]? = W.heap[b]?
theorem SameOn.refl (S : Nat → Prop) (W : World) : SameOn S W W := fun _ _ => rfl
theorem SameOn.trans {S : Nat → Prop} {A B C : World} (h : SameOn S A B) (k : SameOn S B C) : SameOn S A C := fun b hb => (k b hb).trans (h b hb)
theorem SameOn.of_below {S : Nat → Prop} {B : Nat} {W W' : World} (h : Below B W W') (hS : ∀ b, S b → b < B) : SameOn S W W' := fun b hb => h.block b (hS b hb)
theorem SameOn.putObj {S : Nat → Prop} {W : World} {l : Nat} (o : Obj) (hl : ¬ S l) : SameOn S W (W.putObj l o) := fun b hb => by
  have hne : b ≠ l := fun e => hl (by rw [← e]; exact hb)
  exact World.putObj_heap_other hne
theorem JobVs.same {w w' : World} {S : Nat → Prop} {b off : Nat} {l : List JobD} {Af : Nat → Option Addr} {cf : Nat → Nat} (h : JobVs w S b off l Af cf) (hk : SameOn S w w') : JobVs w' S b off l Af cf :=
  ⟨h.mem, fun k hl => (World.cell?_of_block (hk b (h.mem (by omega)))).trans (h.val k hl), fun k hl => (World.cell?_of_block (hk b (h.mem (by omega)))).trans (h.kids k hl), fun k hl => (h.ints k hl).keep (fun b' o hb => World.cell?_of_block (hk b' hb)) (fun _ h => h)⟩
def jobV (l : List JobD) (Af : Nat → Option Addr) (cf : Nat → Nat) (k : Nat) : Value := .agg #[.int .i64 (getj l k).v, .slice (Af k) (getj l k).ks.length (cf k)]
def backTo (n k : Nat) : List Nat := (List.range k).map (fun j => n - 1 - j)
theorem backTo_succ (n k : Nat) : backTo n (k + 1) = backTo n k ++ [n - 1 - k] := by simp [backTo, List.range_succ]
theorem backTo_length (n k : Nat) : (backTo n k).length = k := by simp [backTo]

set_option maxHeartbeats 800000 in
theorem backward_any (A : Option Addr) (n c : Nat) (w : World) :
    Calls Try.prog 71 #[.slice A n c] w fun e w' => e = .returned (.func (.func 112) #[] #[.pointer (some ⟨w.heap.size, 0, none⟩)]) ∧ w' = w.alloc (.cells #[.slice A n c] 23) := by
  go_enter Try.func71, Try.ntmps71
  go_wp2_with fail
  go_ret
  exact ⟨rfl, rfl⟩

section
attribute [local go_sem] Oper.semAt_some

set_option maxRecDepth 100000 in
set_option maxHeartbeats 2000000 in
theorem backward1_in (F : Fence) (m : Nat) (h6 : F.fn 112) (hro : F.round = none) (hm : 1 ≤ m) (lp Bs : Nat) (S : Nat → Prop) (b off c : Nat) (l : List JobD) (Af : Nat → Option Addr) (cf : Nat → Nat) (hn2 : l.length ≤ 30) (J Jx : List { k : Nat // k < l.length } → World → Prop)
    (hY : ∀ pre (x : { k : Nat // k < l.length }) W, J pre W → pre.length < l.length → YieldAt F (m - 1) Try.prog lp #[.int .i64 (x.1 : Int), jobV l Af cf x.1] W fun e W' =>
      (e = .returned (.bool true) ∧ J (pre ++ [x]) W' ∧ SameOn S W W') ∨ (e = .returned (.bool false) ∧ Jx (pre ++ [x]) W'))
    (W : World) (hBs0 : S Bs) (hBs : W.cell? ⟨Bs, 0, none⟩ = some (.slice (some ⟨b, off, none⟩) l.length c)) (hS : JobVs W S b off l Af cf) (h0 : J [] W) :
    CallsIn F m Try.prog 112 #[.func (.yield lp) #[] #[], .pointer (some ⟨Bs, 0, none⟩)] W fun e W' => (∃ v, e = .returned v) ∧
      ((∃ ys, ys.map (·.1) = backTo l.length l.length ∧ J ys W') ∨ (∃ pre, (∃ k, k ≤ l.length ∧ pre.map (·.1) = backTo l.length k) ∧ Jx pre W')) := by
  refine callsIn_of_wp Try.func112 rfl h6 ?_ hro
  simp only [Try.ntmps112, List.size_toArray, List.length_cons, List.length_nil, Nat.reduceAdd, Nat.reduceSub, Array.replicate_succ, Array.replicate_zero, List.push_toArray, List.append_toArray, List.nil_append, List.cons_append]
  gi_wp2
  gi_loopw [3] (fun i wr => ∃ (r : Nat) (pre : List { k : Nat // k < l.length }), r ≤ l.length ∧ i = .int .i64 ((r : Int) - 1) ∧ Hid (pre.map (·.1) = backTo l.length (l.length - r)) ∧ J pre wr ∧ SameOn S W wr) (fun i _ => (intOf i + 1).toNat)
  case atStart => exact ⟨l.length, [], Nat.le_refl _, rfl, hide (by rw [Nat.sub_self]; rfl), h0, SameOn.refl _ _⟩
  case round =>
    obtain ⟨r, pre, hr, rfl, hpre, hJs, hnx⟩ := hrel
    have hbs := (World.cell?_of_block (a := ⟨Bs, 0, none⟩) (hnx Bs hBs0)).trans hBs
    rcases r with _ | r
    · gi_wp2
      go_end0
      exact ⟨⟨_, rfl⟩, .inl ⟨_, by simpa using hpre.out, hJs⟩⟩
    · have hv := (hS.same hnx).val r (by omega)
      have hk := (hS.same hnx).kids r (by omega)
      have hpl : pre.length = l.length - (r + 1) := by
        have := congrArg List.length hpre.out
        rwa [List.length_map, backTo_length] at this
      obtain ⟨fn, tmps, assign, body, hy, hR⟩ := hY _ ⟨r, by omega⟩ wr hJs (by omega)
      have e1 : ((r + 1 : Nat) : Int) - 1 = r := by omega
      simp only [jobV] at hy
      rw [e1]
      have hri : (r : Int) < (l.length : Int) := by omega
      have hP2 := hide (show (pre ++ [(⟨r, by omega⟩ : { k : Nat // k < l.length })]).map (·.1) = backTo l.length (l.length - r) from by
        rw [List.map_append, hpre.out, show l.length - r = l.length - (r + 1) + 1 by omega, backTo_succ]
        simp
        omega)
      replace hpl := hide hpl
      clear e1
      gi_wp2
      refine hR.mono ?_
      rintro e W3 (⟨rfl, hJ3, hk3⟩ | ⟨rfl, hJx3⟩)
      · gi_wp2
        go_roundw
        case rel => exact ⟨r, _, by omega, rfl, hP2, hJ3, hnx.trans hk3⟩
        case measure => simp [intOf]
      · gi_wp2
        refine bodyPost_ret (results_none rfl _ _ _) rfl ?_
        exact ⟨⟨_, rfl⟩, .inr ⟨_, ⟨l.length - r, by omega, hP2.out⟩, hJx3⟩⟩

theorem backward_stops (F : Fence) (m : Nat) (h6 : F.fn 112) (hro : F.round = none) (hm : 1 ≤ m) (Bs : Nat) (S : Nat → Prop) (b off c : Nat) (l : List JobD) (Af : Nat → Option Addr) (cf : Nat → Nat) (hn2 : l.length ≤ 30) (w : World) (hBs0 : S Bs) (hSw : ∀ b, S b → b < w.heap.size)
    (hBs : w.cell? ⟨Bs, 0, none⟩ = some (.slice (some ⟨b, off, none⟩) l.length c)) (hS : JobVs w S b off l Af cf) :
    SeqStopsK F m Try.prog 112 #[.pointer (some ⟨Bs, 0, none⟩)] (fun x : { k : Nat // k < l.length } => #[Value.int .i64 (x.1 : Int), jobV l Af cf x.1]) (SameOn S) (fun ys => ys.map (·.1) = backTo l.length l.length)
      (fun pre => ∃ k, k ≤ l.length ∧ pre.map (·.1) = backTo l.length k) l.length w := fun lp J Jx W hW _ _ hY h0 =>
  backward1_in F m h6 hro hm lp Bs S b off c l Af cf hn2 J Jx hY W hBs0 ((hW.cell (p := ⟨Bs, 0, none⟩) (hSw _ hBs0)).trans hBs) (hS.below hW hSw) h0
end
end Go.Proofs.Ytfnphnjadknoaaa
