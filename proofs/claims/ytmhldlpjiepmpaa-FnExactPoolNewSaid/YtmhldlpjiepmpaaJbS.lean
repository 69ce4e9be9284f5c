/- The model's JobsOk. -/
import Derived.Test.YtmhldlpjiepmpaaJbA
namespace Go.Proofs.Ytmhldlpjiepmpaa
open Go.RowKit

set_option maxHeartbeats 3200000 in
theorem sjobsOk_any (A : Option Addr) (l : List JobD) (c : Nat) (S : Nat → Prop) (w : World) (hsz : ∀ k, (getj l k).ks.length ≤ 1048576) (hS : ∀ b, S b → b < w.heap.size) (ha : JobsAt w S A l) :
    Calls Try.prog 34 #[.slice A l.length c] w fun e w' => e = .returned (.bool (jobsB l)) ∧ Below w.heap.size w w' := by
  obtain ⟨res, hres⟩ : ∃ res, res = jobsB l := ⟨_, rfl⟩
  rw [← hres]
  replace hres := hide hres
  have hl := ha.1
  by_cases h0 : l.length < 1
  · have hE := hide (show res = false from by rw [hres.out, jobsB_len (.inl h0)])
    have h1 : (l.length : Int) < 1 := by omega
    go_enter Try.func34, Try.ntmps34
    go_wp2_with fail
    go_ret
    exact ⟨ret_bool hE.out.symm, Below.refl _ _⟩
  · have h1 : decide ((l.length : Int) < 1) = false := decide_eq_false (by omega)
    by_cases h30 : 30 < l.length
    · have hE := hide (show res = false from by rw [hres.out, jobsB_len (.inr h30)])
      have h2 : (30 : Int) < l.length := by omega
      go_enter Try.func34, Try.ntmps34
      go_wp2_with fail
      go_ret
      exact ⟨ret_bool hE.out.symm, Below.refl _ _⟩
    · have h2 : decide ((30 : Int) < l.length) = false := decide_eq_false (by omega)
      have hmk := make_ints l.length (by omega)
      obtain ⟨w0, hw0⟩ : ∃ w0, w0 = w.alloc (.cells (zrow #[.int .i64 0] l.length) 3) := ⟨_, rfl⟩
      have F0 := hide (show FnAt w0 w.heap.size l.length (fun m => (cntJ l 0 (m : Int) : Int)) from by
        rw [hw0]; exact (FnAt.zero w l.length).congr (fun m _ => by rw [cntJ_zero]; rfl))
      have B0 := hide (show Below w.heap.size w w0 from by rw [hw0]; exact below1 _ _)
      go_enter Try.func34, Try.ntmps34
      go_wp2_with fail
      rw [← hw0]
      clear hmk hw0
      go_loopw [4] (fun i wr => ∃ J : Nat, J ≤ l.length ∧ i = .int .i64 J ∧ Hid (FnAt wr w.heap.size l.length (fun m => (cntJ l J (m : Int) : Int))) ∧ Hid (Below w.heap.size w wr) ∧ Hid (∀ i, i < J → ∀ k, k < (getj l i).ks.length → (i : Int) < geti (getj l i).ks k ∧ geti (getj l i).ks k < l.length)) (fun i _ => l.length - (intOf i).toNat)
      case atStart => exact ⟨0, by omega, rfl, F0, B0, hide (fun i hi => by omega)⟩
      case round =>
        clear F0 B0
        obtain ⟨J, hJ, rfl, F, B, K⟩ := hrel
        by_cases hlt : J < l.length
        · have hlt' : (J : Int) < l.length := by omega
          go_wp2_with fail
          rename World => w1
          go_loopw [5] (fun i wr => ∃ k : Nat, k ≤ (getj l J).ks.length ∧ i = .int .i64 k ∧ Hid (FnAt wr w.heap.size l.length (fun m => (cntK l J k (m : Int) : Int))) ∧ Hid (Below w.heap.size w wr) ∧ Hid (∀ m, m < k → (J : Int) < geti (getj l J).ks m ∧ geti (getj l J).ks m < l.length)) (fun i _ => (getj l J).ks.length - (intOf i).toNat)
          case atStart => exact ⟨0, by omega, rfl, hide (F.out.congr (fun m _ => by rw [cntK_zero])), B, hide (fun m hm => by omega)⟩
          case round =>
            clear F B
            obtain ⟨k, hk, rfl, F, B, KJ⟩ := hrel
            by_cases hlk : k < (getj l J).ks.length
            · obtain ⟨b, off, rfl, hb, -, A', c', h3, -, h4⟩ := (ha.below B.out hS).at_ hlt
              obtain ⟨b', off', rfl, hb', h5⟩ := h4.at_ hlk
              obtain ⟨x, hx⟩ : ∃ x, x = geti (getj l J).ks k := ⟨_, rfl⟩
              rw [← hx] at h5
              replace hx := hide hx
              have hkn : (getj l J).ks.length ≤ 1048576 := hsz J
              have hlk' : (k : Int) < (getj l J).ks.length := by omega
              clear h4
              by_cases hx1 : x ≤ J
              · have hE := hide (show res = false from by rw [hres.out, jobsB_kid hlt hlk (by rw [← hx.out]; exact .inl hx1)])
                go_wp2_with fail
                go_ret
                exact ⟨ret_bool hE.out.symm, B.out⟩
              · by_cases hx2 : (l.length : Int) ≤ x
                · have hE := hide (show res = false from by rw [hres.out, jobsB_kid hlt hlk (by rw [← hx.out]; exact .inr hx2)])
                  go_wp2_with fail
                  go_ret
                  exact ⟨ret_bool hE.out.symm, B.out⟩
                · obtain ⟨m, rfl⟩ : ∃ m : Nat, x = m := ⟨x.toNat, by omega⟩
                  have hm : m < l.length := by omega
                  obtain ⟨h6, h7⟩ := F.out.cell hm
                  have hlt6 := F.out.lt
                  have hb6 : cntK l J k (m : Int) ≤ 31457280 := Nat.le_trans (cntK_bound hsz hlt k m) (by omega)
                  obtain ⟨z, hz⟩ : ∃ z, z = cntK l J k (m : Int) := ⟨_, rfl⟩
                  rw [← hz] at h6 hb6
                  have F2 := hide (show FnAt (wr.setCell ⟨w.heap.size, m, none⟩ (.int .i64 ((z : Int) + 1))) w.heap.size l.length (fun m => (cntK l J (k + 1) (m : Int) : Int)) from
                    (F.out.set_ hm _).congr (fun m' _ => by
                      unfold upd
                      rw [cntK_succ hlk, ← hx.out]
                      by_cases e : m' = m
                      · rw [if_pos e, e, if_pos rfl, hz]; rfl
                      · rw [if_neg e, if_neg (by omega)]; rfl))
                  have B2 := hide (B.out.setCell (p := ⟨w.heap.size, m, none⟩) (Nat.le_refl _) (.int .i64 ((z : Int) + 1)))
                  have K2 := hide (show ∀ m, m < k + 1 → (J : Int) < geti (getj l J).ks m ∧ geti (getj l J).ks m < l.length from fun m' hm' => by
                    rcases Nat.lt_or_ge m' k with h | h
                    · exact KJ.out m' h
                    · obtain rfl : m' = k := by omega
                      rw [← hx.out]; omega)
                  have hw : IntKind.i64.wrap ((z : Int) + 1) = (z : Int) + 1 := by rw [IntKind.wrap_i64]; omega
                  clear F B KJ hz
                  go_wp2_with fail
                  go_roundw
                  case rel => exact ⟨k + 1, by omega, by go_num, F2, B2, K2⟩
                  case measure => simp [intOf]; omega
            · obtain ⟨b, off, rfl, hb, -, A', c', h3, -, h4⟩ := (ha.below B.out hS).at_ hlt
              have hkn : (getj l J).ks.length ≤ 1048576 := hsz J
              have hlk' : decide ((k : Int) < (getj l J).ks.length) = false := decide_eq_false (by omega)
              have F2 := hide (F.out.congr (f' := fun m => (cntJ l (J + 1) (m : Int) : Int)) (fun m _ => by rw [cntK_all hlt (by omega)]))
              have K2 := hide (show ∀ i, i < J + 1 → ∀ k, k < (getj l i).ks.length → (i : Int) < geti (getj l i).ks k ∧ geti (getj l i).ks k < l.length from fun i hi m hm => by
                rcases Nat.lt_or_ge i J with h | h
                · exact K.out i h m hm
                · obtain rfl : i = J := by omega
                  exact KJ.out m (by omega))
              clear h4 F KJ K
              go_wp2_with fail
              go_roundw
              case rel => exact ⟨J + 1, by omega, by go_num, F2, B, K2⟩
              case measure => simp [intOf]; omega
        · obtain rfl : J = l.length := by omega
          go_wp2_with fail
          rename World => w1
          go_loop [7] (fun i => ∃ m : Nat, 1 ≤ m ∧ m ≤ l.length ∧ i = .int .i64 m ∧ Hid (∀ k : Nat, 1 ≤ k → k < m → cntJ l l.length (k : Int) = 1)) (fun i => l.length - (intOf i).toNat)
          case atStart => exact ⟨1, by omega, by omega, rfl, hide (fun k h1 h2 => by omega)⟩
          case round =>
            obtain ⟨m, hm1, hm2, rfl, hall⟩ := hrel
            by_cases hlm : m < l.length
            · obtain ⟨h6, h7⟩ := F.out.cell hlm
              have hlt6 := F.out.lt
              have hlm' : (m : Int) < l.length := by omega
              by_cases he : cntJ l l.length (m : Int) = 1
              · rw [he] at h6
                have H2 := hide (show ∀ k : Nat, 1 ≤ k → k < m + 1 → cntJ l l.length (k : Int) = 1 from fun k h1 h2 => by
                  rcases Nat.lt_or_ge k m with h | h
                  · exact hall.out k h1 h
                  · obtain rfl : k = m := by omega
                    exact he)
                clear he hall
                go_wp2_with fail
                go_round
                case rel => exact ⟨m + 1, by omega, by omega, by go_num, H2⟩
                case measure => simp [intOf]; omega
              · have hE := hide (show res = false from by rw [hres.out, jobsB_uses hm1 hlm he])
                obtain ⟨z, hz⟩ : ∃ z : Nat, z = cntJ l l.length (m : Int) := ⟨_, rfl⟩
                rw [← hz] at h6 he
                have he' : ¬ ((z : Int) = 1) := by omega
                clear hz hall
                go_wp2_with fail
                go_ret
                exact ⟨ret_bool hE.out.symm, B.out⟩
            · obtain rfl : m = l.length := by omega
              have hE := hide (show res = true from by
                rw [hres.out]
                exact jobsB_yes ⟨by omega, by omega, K.out, fun k h1 h2 => hall.out k h1 h2⟩)
              clear hall K
              go_wp2_with fail
              go_ret
              exact ⟨ret_bool hE.out.symm, B.out⟩
end Go.Proofs.Ytmhldlpjiepmpaa
