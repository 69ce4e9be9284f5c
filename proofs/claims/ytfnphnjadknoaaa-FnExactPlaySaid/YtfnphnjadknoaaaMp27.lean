/- The model's parents of jobs, and what jobs are worth. -/
import Derived.Test.YtfnphnjadknoaaaMp0
import Derived.Test.YtfnphnjadknoaaaMp3
namespace Go.Proofs.Ytfnphnjadknoaaa
open Go.RowKit

set_option maxHeartbeats 3200000 in
theorem sjobsOk_any (A : Option Addr) (l : List JobD) (c : Nat) (S : Nat → Prop) (w : World) (hsz : ∀ k, (getj l k).ks.length ≤ 1048576) (hS : ∀ b, S b → b < w.heap.size) (ha : JobsAt w S A l) :
    Calls Try.prog 34 #[.slice A l.length c] w fun e w' => e = .returned (.bool (jobsB l)) ∧ Below w.heap.size w w' := by
  obtain ⟨res, hres⟩ : ∃ res, res = jobsB l := ⟨_, rfl⟩
  rw [← hres]
  replace hres := hide hres
  have hl := ha.1
  by_cases h0 : l.length < 1
  · have hE := hide (show res = false from by rw [hres.out, jobsB_len (.inl h0)])
    have h1 : (l.length : Int) < 1 := by omega
    go_enter Try.func34, Try.ntmps34
    go_wp2_with fail
    go_ret
    exact ⟨ret_bool hE.out.symm, Below.refl _ _⟩
  · have h1 : decide ((l.length : Int) < 1) = false := decide_eq_false (by omega)
    by_cases h30 : 30 < l.length
    · have hE := hide (show res = false from by rw [hres.out, jobsB_len (.inr h30)])
      have h2 : (30 : Int) < l.length := by omega
      go_enter Try.func34, Try.ntmps34
      go_wp2_with fail
      go_ret
      exact ⟨ret_bool hE.out.symm, Below.refl _ _⟩
    · have h2 : decide ((30 : Int) < l.length) = false := decide_eq_false (by omega)
      have hmk := make_ints l.length (by omega)
      obtain ⟨w0, hw0⟩ : ∃ w0, w0 = w.alloc (.cells (zrow #[.int .i64 0] l.length) 3) := ⟨_, rfl⟩
      have F0 := hide (show FnAt w0 w.heap.size l.length (fun m => (cntJ l 0 (m : Int) : Int)) from by
        rw [hw0]; exact (FnAt.zero w l.length).congr (fun m _ => by rw [cntJ_zero]; rfl))
      have B0 := hide (show Below w.heap.size w w0 from by rw [hw0]; exact below1 _ _)
      go_enter Try.func34, Try.ntmps34
      go_wp2_with fail
      rw [← hw0]
      clear hmk hw0
      go_loopw [4] (fun i wr => ∃ J : Nat, J ≤ l.length ∧ i = .int .i64 J ∧ Hid (FnAt wr w.heap.size l.length (fun m => (cntJ l J (m : Int) : Int))) ∧ Hid (Below w.heap.size w wr) ∧ Hid (∀ i, i < J → ∀ k, k < (getj l i).ks.length → (i : Int) < geti (getj l i).ks k ∧ geti (getj l i).ks k < l.length)) (fun i _ => l.length - (intOf i).toNat)
      case atStart => exact ⟨0, by omega, rfl, F0, B0, hide (fun i hi => by omega)⟩
      case round =>
        clear F0 B0
        obtain ⟨J, hJ, rfl, F, B, K⟩ := hrel
        by_cases hlt : J < l.length
        · have hlt' : (J : Int) < l.length := by omega
          go_wp2_with fail
          rename World => w1
          go_loopw [5] (fun i wr => ∃ k : Nat, k ≤ (getj l J).ks.length ∧ i = .int .i64 k ∧ Hid (FnAt wr w.heap.size l.length (fun m => (cntK l J k (m : Int) : Int))) ∧ Hid (Below w.heap.size w wr) ∧ Hid (∀ m, m < k → (J : Int) < geti (getj l J).ks m ∧ geti (getj l J).ks m < l.length)) (fun i _ => (getj l J).ks.length - (intOf i).toNat)
          case atStart => exact ⟨0, by omega, rfl, hide (F.out.congr (fun m _ => by rw [cntK_zero])), B, hide (fun m hm => by omega)⟩
          case round =>
            clear F B
            obtain ⟨k, hk, rfl, F, B, KJ⟩ := hrel
            by_cases hlk : k < (getj l J).ks.length
            · obtain ⟨b, off, rfl, hb, -, A', c', h3, -, h4⟩ := (ha.below B.out hS).at_ hlt
              obtain ⟨b', off', rfl, hb', h5⟩ := h4.at_ hlk
              obtain ⟨x, hx⟩ : ∃ x, x = geti (getj l J).ks k := ⟨_, rfl⟩
              rw [← hx] at h5
              replace hx := hide hx
              have hkn : (getj l J).ks.length ≤ 1048576 := hsz J
              have hlk' : (k : Int) < (getj l J).ks.length := by omega
              clear h4
              by_cases hx1 : x ≤ J
              · have hE := hide (show res = false from by rw [hres.out, jobsB_kid hlt hlk (by rw [← hx.out]; exact .inl hx1)])
                go_wp2_with fail
                go_ret
                exact ⟨ret_bool hE.out.symm, B.out⟩
              · by_cases hx2 : (l.length : Int) ≤ x
                · have hE := hide (show res = false from by rw [hres.out, jobsB_kid hlt hlk (by rw [← hx.out]; exact .inr hx2)])
                  go_wp2_with fail
                  go_ret
                  exact ⟨ret_bool hE.out.symm, B.out⟩
                · obtain ⟨m, rfl⟩ : ∃ m : Nat, x = m := ⟨x.toNat, by omega⟩
                  have hm : m < l.length := by omega
                  obtain ⟨h6, h7⟩ := F.out.cell hm
                  have hlt6 := F.out.lt
                  have hb6 : cntK l J k (m : Int) ≤ 31457280 := Nat.le_trans (cntK_bound hsz hlt k m) (by omega)
                  obtain ⟨z, hz⟩ : ∃ z, z = cntK l J k (m : Int) := ⟨_, rfl⟩
                  rw [← hz] at h6 hb6
                  have F2 := hide (show FnAt (wr.setCell ⟨w.heap.size, m, none⟩ (.int .i64 ((z : Int) + 1))) w.heap.size l.length (fun m => (cntK l J (k + 1) (m : Int) : Int)) from
                    (F.out.set_ hm _).congr (fun m' _ => by
                      unfold upd
                      rw [cntK_succ hlk, ← hx.out]
                      by_cases e : m' = m
                      · rw [if_pos e, e, if_pos rfl, hz]; rfl
                      · rw [if_neg e, if_neg (by omega)]; rfl))
                  have B2 := hide (B.out.setCell (p := ⟨w.heap.size, m, none⟩) (Nat.le_refl _) (.int .i64 ((z : Int) + 1)))
                  have K2 := hide (show ∀ m, m < k + 1 → (J : Int) < geti (getj l J).ks m ∧ geti (getj l J).ks m < l.length from fun m' hm' => by
                    rcases Nat.lt_or_ge m' k with h | h
                    · exact KJ.out m' h
                    · obtain rfl : m' = k := by omega
                      rw [← hx.out]; omega)
                  have hw : IntKind.i64.wrap ((z : Int) + 1) = (z : Int) + 1 := by rw [IntKind.wrap_i64]; omega
                  clear F B KJ hz
                  go_wp2_with fail
                  go_roundw
                  case rel => exact ⟨k + 1, by omega, by go_num, F2, B2, K2⟩
                  case measure => simp [intOf]; omega
            · obtain ⟨b, off, rfl, hb, -, A', c', h3, -, h4⟩ := (ha.below B.out hS).at_ hlt
              have hkn : (getj l J).ks.length ≤ 1048576 := hsz J
              have hlk' : decide ((k : Int) < (getj l J).ks.length) = false := decide_eq_false (by omega)
              have F2 := hide (F.out.congr (f' := fun m => (cntJ l (J + 1) (m : Int) : Int)) (fun m _ => by rw [cntK_all hlt (by omega)]))
              have K2 := hide (show ∀ i, i < J + 1 → ∀ k, k < (getj l i).ks.length → (i : Int) < geti (getj l i).ks k ∧ geti (getj l i).ks k < l.length from fun i hi m hm => by
                rcases Nat.lt_or_ge i J with h | h
                · exact K.out i h m hm
                · obtain rfl : i = J := by omega
                  exact KJ.out m (by omega))
              clear h4 F KJ K
              go_wp2_with fail
              go_roundw
              case rel => exact ⟨J + 1, by omega, by go_num, F2, B, K2⟩
              case measure => simp [intOf]; omega
        · obtain rfl : J = l.length := by omega
          go_wp2_with fail
          rename World => w1
          go_loop [7] (fun i => ∃ m : Nat, 1 ≤ m ∧ m ≤ l.length ∧ i = .int .i64 m ∧ Hid (∀ k : Nat, 1 ≤ k → k < m → cntJ l l.length (k : Int) = 1)) (fun i => l.length - (intOf i).toNat)
          case atStart => exact ⟨1, by omega, by omega, rfl, hide (fun k h1 h2 => by omega)⟩
          case round =>
            obtain ⟨m, hm1, hm2, rfl, hall⟩ := hrel
            by_cases hlm : m < l.length
            · obtain ⟨h6, h7⟩ := F.out.cell hlm
              have hlt6 := F.out.lt
              have hlm' : (m : Int) < l.length := by omega
              by_cases he : cntJ l l.length (m : Int) = 1
              · rw [he] at h6
                have H2 := hide (show ∀ k : Nat, 1 ≤ k → k < m + 1 → cntJ l l.length (k : Int) = 1 from fun k h1 h2 => by
                  rcases Nat.lt_or_ge k m with h | h
                  · exact hall.out k h1 h
                  · obtain rfl : k = m := by omega
                    exact he)
                clear he hall
                go_wp2_with fail
                go_round
                case rel => exact ⟨m + 1, by omega, by omega, by go_num, H2⟩
                case measure => simp [intOf]; omega
              · have hE := hide (show res = false from by rw [hres.out, jobsB_uses hm1 hlm he])
                obtain ⟨z, hz⟩ : ∃ z : Nat, z = cntJ l l.length (m : Int) := ⟨_, rfl⟩
                rw [← hz] at h6 he
                have he' : ¬ ((z : Int) = 1) := by omega
                clear hz hall
                go_wp2_with fail
                go_ret
                exact ⟨ret_bool hE.out.symm, B.out⟩
            · obtain rfl : m = l.length := by omega
              have hE := hide (show res = true from by
                rw [hres.out]
                exact jobsB_yes ⟨by omega, by omega, K.out, fun k h1 h2 => hall.out k h1 h2⟩)
              clear hall K
              go_wp2_with fail
              go_ret
              exact ⟨ret_bool hE.out.symm, B.out⟩
end Go.Proofs.Ytfnphnjadknoaaa

namespace Go.Proofs.Ytfnphnjadknoaaa
open Go.RowKit

set_option maxHeartbeats 3200000 in
theorem sparents_any (A : Option Addr) (l : List JobD) (c : Nat) (S : Nat → Prop) (w : World) (hT : Tree l) (hsz : ∀ k, (getj l k).ks.length ≤ 1048576) (hS : ∀ b, S b → b < w.heap.size) (ha : JobsAt w S A l) :
    Calls Try.prog 105 #[.slice A l.length c] w fun e w' => e = .returned (.slice (some ⟨w.heap.size, 0, none⟩) l.length l.length) ∧ FnAt w' w.heap.size l.length (fun m => parI l l.length (m : Int)) ∧ Below w.heap.size w w' := by
  have hl := ha.1
  have h30 := hT.top
  have h01 := hT.one
  replace hT := hide hT
  have hmk := make_ints l.length (by omega)
  obtain ⟨w0, hw0⟩ : ∃ w0, w0 = w.alloc (.cells (zrow #[.int .i64 0] l.length) 3) := ⟨_, rfl⟩
  have F0 := hide (show FnAt w0 w.heap.size l.length (fun m => if m < 0 then -1 else 0) from by
    rw [hw0]; exact (FnAt.zero w l.length).congr (fun m _ => by rw [if_neg (by omega)]))
  have B0 := hide (show Below w.heap.size w w0 from by rw [hw0]; exact below1 _ _)
  go_enter Try.func105, Try.ntmps105
  go_wp2_with fail
  rw [← hw0]
  clear hmk hw0
  go_loopw [4] (fun i wr => ∃ J : Nat, J ≤ l.length ∧ i = .int .i64 J ∧ Hid (FnAt wr w.heap.size l.length (fun m => if m < J then -1 else 0)) ∧ Hid (Below w.heap.size w wr)) (fun i _ => l.length - (intOf i).toNat)
  case atStart => exact ⟨0, by omega, rfl, F0, B0⟩
  case round =>
    clear F0 B0
    obtain ⟨J, hJ, rfl, F, B⟩ := hrel
    by_cases hlt : J < l.length
    · have hlt' : (J : Int) < l.length := by omega
      obtain ⟨h6, h7⟩ := F.out.cell hlt
      have hlt6 := F.out.lt
      have F2 := hide (show FnAt (wr.setCell ⟨w.heap.size, J, none⟩ (.int .i64 (-1))) w.heap.size l.length (fun m => if m < J + 1 then -1 else 0) from
        (F.out.set_ hlt _).congr (fun m' _ => by
          show (if m' < J + 1 then (-1 : Int) else 0) = if m' = J then -1 else if m' < J then -1 else 0
          by_cases e : m' = J
          · rw [if_pos e, if_pos (by omega)]
          · by_cases e2 : m' < J
            · rw [if_neg e, if_pos e2, if_pos (by omega)]
            · rw [if_neg e, if_neg e2, if_neg (by omega)]))
      have B2 := hide (B.out.setCell (p := ⟨w.heap.size, J, none⟩) (Nat.le_refl _) (.int .i64 (-1)))
      clear F B
      go_wp2_with fail
      go_roundw
      case rel => exact ⟨J + 1, by omega, by go_num, F2, B2⟩
      case measure => simp [intOf]; omega
    · obtain rfl : J = l.length := by omega
      have F2 := hide (F.out.congr (f' := fun m => parI l 0 (m : Int)) (fun m hm => by rw [if_pos hm]; rfl))
      clear F
      go_wp2_with fail
      rename World => w1
      go_loopw [5] (fun i wr => ∃ J : Nat, J ≤ l.length ∧ i = .int .i64 J ∧ Hid (FnAt wr w.heap.size l.length (fun m => parI l J (m : Int))) ∧ Hid (Below w.heap.size w wr)) (fun i _ => l.length - (intOf i).toNat)
      case atStart => exact ⟨0, by omega, rfl, F2, B⟩
      case round =>
        clear F2 B
        obtain ⟨J, hJ, rfl, F, B⟩ := hrel
        by_cases hlt : J < l.length
        · have hlt' : (J : Int) < l.length := by omega
          go_wp2_with fail
          rename World => w2
          go_loopw [6] (fun i wr => ∃ k : Nat, k ≤ (getj l J).ks.length ∧ i = .int .i64 k ∧ Hid (FnAt wr w.heap.size l.length (fun m => if ((getj l J).ks.take k).count (m : Int) = 0 then parI l J (m : Int) else (J : Int))) ∧ Hid (Below w.heap.size w wr)) (fun i _ => (getj l J).ks.length - (intOf i).toNat)
          case atStart => exact ⟨0, by omega, rfl, hide (F.out.congr (fun m _ => by simp)), B⟩
          case round =>
            clear F B
            obtain ⟨k, hk, rfl, F, B⟩ := hrel
            obtain ⟨b, off, rfl, hb, -, A', c', h3, -, h4⟩ := (ha.below B.out hS).at_ hlt
            have hkn : (getj l J).ks.length ≤ 1048576 := hsz J
            by_cases hlk : k < (getj l J).ks.length
            · obtain ⟨b', off', rfl, hb', h5⟩ := h4.at_ hlk
              have hx := hT.out.kid J hlt k hlk
              obtain ⟨m, hm⟩ : ∃ m : Nat, geti (getj l J).ks k = m := ⟨(geti (getj l J).ks k).toNat, by omega⟩
              rw [hm] at h5 hx
              have hml : m < l.length := by omega
              obtain ⟨h6, h7⟩ := F.out.cell hml
              obtain ⟨z, hz⟩ : ∃ z, z = (if ((getj l J).ks.take k).count (m : Int) = 0 then parI l J (m : Int) else (J : Int)) := ⟨_, rfl⟩
              rw [← hz] at h6
              have hlt6 := F.out.lt
              have hlk' : (k : Int) < (getj l J).ks.length := by omega
              have F2 := hide (show FnAt (wr.setCell ⟨w.heap.size, m, none⟩ (.int .i64 (J : Int))) w.heap.size l.length (fun m => if ((getj l J).ks.take (k + 1)).count (m : Int) = 0 then parI l J (m : Int) else (J : Int)) from
                (F.out.set_ hml _).congr (fun m' _ => by
                  show (if ((getj l J).ks.take (k + 1)).count (m' : Int) = 0 then parI l J (m' : Int) else (J : Int)) = if m' = m then (J : Int) else if ((getj l J).ks.take k).count (m' : Int) = 0 then parI l J (m' : Int) else (J : Int)
                  rw [List.take_succ_eq_append_getElem hlk, List.count_append, ← geti_eq hlk, hm]
                  by_cases e : m' = m
                  · have h1 : List.count (m' : Int) [(m : Int)] = 1 := by rw [e]; simp
                    rw [if_pos e, h1, if_neg (by omega)]
                  · have h1 : List.count (m' : Int) [(m : Int)] = 0 := by
                      rw [List.count_eq_zero]; simp; omega
                    rw [if_neg e, h1, Nat.add_zero]))
              have B2 := hide (B.out.setCell (p := ⟨w.heap.size, m, none⟩) (Nat.le_refl _) (.int .i64 (J : Int)))
              clear F B h4 hz hm
              go_wp2_with fail
              go_roundw
              case rel => exact ⟨k + 1, by omega, by go_num, F2, B2⟩
              case measure => simp [intOf]; omega
            · have hlk' : decide ((k : Int) < (getj l J).ks.length) = false := decide_eq_false (by omega)
              have F2 := hide (F.out.congr (f' := fun m => parI l (J + 1) (m : Int)) (fun m hm => by
                rw [List.take_of_length_le (by omega)]
                show (if parI l J (m : Int) = -1 then (if (getj l J).ks.count (m : Int) = 0 then -1 else (J : Int)) else parI l J (m : Int)) = _
                by_cases e : (getj l J).ks.count (m : Int) = 0
                · rw [if_pos e, if_pos e]
                  by_cases e2 : parI l J (m : Int) = -1
                  · rw [if_pos e2, e2]
                  · rw [if_neg e2]
                · rw [if_neg e, if_neg e]
                  by_cases e2 : parI l J (m : Int) = -1
                  · rw [if_pos e2]
                  · have h1 := hT.out.par hlt (List.count_pos_iff.1 (by omega : 0 < (getj l J).ks.count (m : Int)))
                    have h2 := parI_stays l (J := J) (J' := l.length) (by omega) (m : Int) e2
                    have h3 := (parI_rng l J (m : Int)).2
                    omega))
              clear h4 F
              go_wp2_with fail
              go_roundw
              case rel => exact ⟨J + 1, by omega, by go_num, F2, B⟩
              case measure => simp [intOf]; omega
        · obtain rfl : J = l.length := by omega
          go_wp2_with fail
          go_ret
          exact ⟨rfl, F.out, B.out⟩

set_option maxHeartbeats 3200000 in
theorem l9value_any (l : List JobD) (A : Option Addr) (c : Nat) (S : Nat → Prop) (w : World) (hT : Hid (Tree l)) (hsz : ∀ k, (getj l k).ks.length ≤ 1048576) (ha : JobsAt w S A l) :
    ∀ (d j : Nat), j < l.length → l.length - j ≤ d → Calls Try.prog 70 #[.slice A l.length c, .int .i64 j] w fun e w' => e = .returned (.int .i64 (valF l d j)) ∧ w = w' := by
  intro d
  induction d with
  | zero => intro j h1 h2; omega
  | succ d ih =>
    intro j hj hd
    have hl := ha.1
    have h30 := hT.out.top
    obtain ⟨b, off, rfl, hb, hv, A', c', h3, -, h4⟩ := ha.at_ hj
    have hkn : (getj l j).ks.length ≤ 1048576 := hsz j
    have hR := hide (show valF l (d + 1) j = wrap64 ((getj l j).v + wrap64 (2 * sumK (valF l d) (getj l j).ks)) from by
      show wrap64 _ = _
      rw [Int.toNat_natCast])
    go_enter Try.func70, Try.ntmps70
    go_wp2_with fail
    go_loop [5, 6] (fun n i => ∃ k : Nat, k ≤ (getj l j).ks.length ∧ i = .int .i64 k ∧ n = .int .i64 (sumK (valF l d) ((getj l j).ks.take k))) (fun _ i => (getj l j).ks.length - (intOf i).toNat)
    case atStart => exact ⟨0, by omega, rfl, by simp [sumK]⟩
    case round =>
      obtain ⟨k, hk, rfl, rfl⟩ := hrel
      by_cases hlk : k < (getj l j).ks.length
      · obtain ⟨b', off', rfl, hb', h5⟩ := h4.at_ hlk
        have hx := hT.out.kid j hj k hlk
        obtain ⟨m, hm⟩ : ∃ m : Nat, geti (getj l j).ks k = m := ⟨(geti (getj l j).ks k).toNat, by omega⟩
        have hS2 := hide (sumK_take (valF l d) hlk)
        rw [hm] at h5 hx hS2
        have hC := hide (ih m (by omega) (by omega))
        have hlk' : (k : Int) < (getj l j).ks.length := by omega
        obtain ⟨s, hs⟩ : ∃ s, s = sumK (valF l d) ((getj l j).ks.take k) := ⟨_, rfl⟩
        rw [← hs] at hS2 ⊢
        obtain ⟨z, hz⟩ : ∃ z, z = valF l d m := ⟨_, rfl⟩
        rw [← hz] at hS2 hC
        clear ih hm hs hz h4
        go_wp2_with (go_at_call 70; refine hC.out.mono ?_; rintro e w' ⟨rfl, rfl⟩)
        go_round
        case rel => exact ⟨k + 1, by omega, by go_num, by rw [hS2.out]⟩
        case measure => simp [intOf]; omega
      · obtain rfl : k = (getj l j).ks.length := by omega
        rw [List.take_of_length_le (Nat.le_refl _)]
        clear ih h4
        go_wp2_with fail
        go_ret
        exact ⟨ret_int hR.out.symm, rfl⟩

set_option maxHeartbeats 800000 in
theorem sserial_any (A : Option Addr) (l : List JobD) (c : Nat) (S : Nat → Prop) (w : World) (hsz : ∀ k, (getj l k).ks.length ≤ 1048576) (hS : ∀ b, S b → b < w.heap.size) (ha : JobsAt w S A l) :
    Calls Try.prog 28 #[.slice A l.length c] w fun e w' => e = .returned (.int .i64 (serialI l)) ∧ Below w.heap.size w w' := by
  have hJ := hide (sjobsOk_any A l c S w hsz hS ha)
  by_cases hT : jobsB l = true
  · have hE := hide (show serialI l = valF l l.length 0 from by
      unfold serialI valJ
      rw [if_pos hT]
      rfl)
    have hV := hide (fun (w' : World) (hb : Below w.heap.size w w') => l9value_any l A c S w' (hide (jobsB_tree hT)) hsz (ha.below hb hS) l.length 0 (jobsB_tree hT).one (by omega))
    rw [hT] at hJ
    clear ha hT
    go_enter Try.func28, Try.ntmps28
    go_wp2_with (go_at_call 34; refine hJ.out.mono ?_; rintro e w1 ⟨rfl, hb⟩)
    go_wp2_with (go_at_call 70; refine (hV.out _ hb).mono ?_; rintro e w2 ⟨rfl, rfl⟩)
    go_ret
    exact ⟨ret_int hE.out.symm, hb⟩
  · have hE := hide (show serialI l = 0 from by unfold serialI; rw [if_neg hT])
    rw [show jobsB l = false from by simpa using hT] at hJ
    clear ha hT
    go_enter Try.func28, Try.ntmps28
    go_wp2_with (go_at_call 34; refine hJ.out.mono ?_; rintro e w1 ⟨rfl, hb⟩)
    go_ret
    exact ⟨ret_int hE.out.symm, hb⟩
end Go.Proofs.Ytfnphnjadknoaaa
