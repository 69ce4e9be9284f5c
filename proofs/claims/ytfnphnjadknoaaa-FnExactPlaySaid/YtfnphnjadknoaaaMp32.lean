/- A pool of one's own in a box: what a store into one of its rows makes of it. -/
import Derived.Test.YtfnphnjadknoaaaMp0
import Derived.Test.YtfnphnjadknoaaaMp21
import Derived.Test.YtfnphnjadknoaaaMp23
import Derived.Test.YtfnphnjadknoaaaMp24
import Derived.Deep.Cut
namespace Go.Proofs.Ytfnphnjadknoaaa
open Go.RowKit

theorem gJob_more {l : List JobD} {kv : Nat → Value} {k : Nat} {u : Value} (j : Nat) (hj : j < (k + 1) * 2) : gJob l (updV kv k u) j = gThen (gJob l kv) (k * 2) (fun j => if j = 0 then .int .i64 (getj l k).v else u) j := by
  by_cases h1 : j < k * 2
  · rw [gThen_lo h1]
    unfold gJob
    by_cases h4 : j % 2 = 0
    · rw [if_pos h4, if_pos h4]
    · rw [if_neg h4, if_neg h4, updV_far (by omega)]
  · rw [gThen_hi (by omega)]
    have h2 : j = k * 2 ∨ j = k * 2 + 1 := by omega
    rcases h2 with rfl | rfl
    · rw [gJob_v, if_pos (by omega)]
    · rw [gJob_k, updV_at, if_neg (by omega)]
set_option maxRecDepth 100000 in
set_option maxHeartbeats 12800000 in
theorem sjobs_any (f0 : Nat → Nat) (A : Option Addr) (l : List JobD) (c : Nat) (S : Nat → Prop) (w : World) (hn2 : l.length ≤ 1048576) (hsz : ∀ k, (getj l k).ks.length ≤ 1048576) (hS : ∀ b, S b → b < w.heap.size) (ha : JobsAt w S A l) :
    Calls Try.prog 78 #[.slice A l.length c] w fun e w' => ∃ v f kv, e = .returned v ∧ JobsO w' f w.heap.size v l kv ∧ Below w.heap.size w w' ∧ ∀ b, b < w.heap.size → f b = f0 b := by
  obtain ⟨i1, hi1, hy0, hy1, hy2⟩ := info_parts Try.infoInt
  obtain ⟨i2, hi2, hz0, hz1, hz2⟩ := info_parts Try.infoJobT
  go_enter Try.func78, Try.ntmps78
  go_wp2_with fail
  go_loopw [3, 4] (fun ov iv wr => ∃ (k : Nat) (kv : Nat → Value) (f : Nat → Nat), k ≤ l.length ∧ iv = .int .i64 k ∧ Hid (Sl 42 2 wr f 1 w.heap.size ov k (gJob l kv)) ∧ Hid (∀ j, j < k → Sl 3 1 wr f (8 + j * 2) w.heap.size (kv j) (getj l j).ks.length (gI (getj l j).ks)) ∧ Hid (Below w.heap.size w wr) ∧ Hid (∀ b, b < w.heap.size → f b = f0 b)) (fun _ iv _ => l.length - (intOf iv).toNat)
  case atStart => exact ⟨0, fun _ => .slice none 0 0, f0, Nat.zero_le _, rfl, hide (Sl.nil _ _ _ _ _ _ _), hide (fun j hj => by omega), hide (Below.refl _ _), hide (fun _ _ => rfl)⟩
  case round =>
    obtain ⟨k, kv, f, hk, rfl, hH, hE, hbw, hf0⟩ := hrel
    by_cases hlt : k < l.length
    · obtain ⟨b, off, rfl, hbS, hv, A', c', hcell, hcap, hin0⟩ := (ha.below hbw.out hS).at_ hlt
      have hlt2 : (k : Int) < l.length := by omega
      have hblt : b < wr.heap.size := Nat.lt_of_lt_of_le (hS b hbS) hbw.out.size
      have hcv := hide (fun wx (h : Below wr.heap.size wr wx) => (show wx.cell? ⟨b, off + k * 2, none⟩ = some (.int .i64 (getj l k).v) from (h.cell (p := ⟨b, off + k * 2, none⟩) hblt).trans hv))
      have hck := hide (fun wx (h : Below wr.heap.size wr wx) => (show wx.cell? ⟨b, off + k * 2 + 1, none⟩ = some (.slice A' (getj l k).ks.length c') from (h.cell (p := ⟨b, off + k * 2 + 1, none⟩) hblt).trans hcell))
      have hin := hide (fun wx (h : Below wr.heap.size wr wx) => hin0.below h (fun b hb => Nat.lt_of_lt_of_le (hS b hb) hbw.out.size))
      clear hv hcell hin0
      go_upto_region 5 with fail
      refine wp_region_facts 15 (by kernel_rfl) (by kernel_rfl) (by kernel_rfl) (fun us => #[.slice (some ⟨b, off, none⟩) l.length c, undef, .slice none 0 0, u3, .int .i64 (k : Int), .int .i64 (k : Int), .slice (some ⟨b, off, none⟩) l.length c, .int .i64 (l.length : Int), .bool true, u9, u10, us 11, us 12, us 13, us 14, us 15, us 16, us 17, us 18, us 19, us 20, us 21, us 22, us 23, us 24, us 25, u26, undef]) (fun j => match j with | 11 => u11 | 12 => u12 | 13 => u13 | 14 => u14 | 15 => u15 | 16 => u16 | 17 => u17 | 18 => u18 | 19 => u19 | 20 => u20 | 21 => u21 | 22 => u22 | 23 => u23 | 24 => u24 | 25 => u25 | _ => undef) (f) rfl (fun i => match i with | 0 => 11 | 1 => 12 | 2 => 13 | 3 => 14 | 4 => 15 | 5 => 16 | 6 => 17 | 7 => 18 | 8 => 19 | 9 => 20 | 10 => 21 | 11 => 22 | 12 => 23 | 13 => 24 | _ => 25) ?_ (fun i v f w' => match i with | 0 => v = u3 | 1 => v = .slice (some ⟨b, off, none⟩) l.length c | 2 => v = .int .i64 (k : Int) | 3 => v = .pointer (some ⟨b, off + k * 2, none⟩) | 4 => v = .pointer (some ⟨b, off + k * 2, none⟩) | 5 => v = .int .i64 (getj l k).v | 6 => ∃ q, v = .slice (some ⟨q, 0, none⟩) 0 0 ∧ Blk w' q 3 #[] ∧ f q = (8 + k * 2) ∧ w.heap.size ≤ q | 7 => v = .slice (some ⟨b, off, none⟩) l.length c | 8 => v = .int .i64 (k : Int) | 9 => v = .pointer (some ⟨b, off + k * 2, none⟩) | 10 => v = .pointer (some ⟨b, off + k * 2 + 1, none⟩) | 11 => v = .slice A' (getj l k).ks.length c' | 12 => Sl 3 1 w' f (8 + k * 2) w.heap.size v (getj l k).ks.length (gI (getj l k).ks) | 13 => ∃ u, v = .agg #[.int .i64 (getj l k).v, u] ∧ Sl 3 1 w' f (8 + k * 2) w.heap.size u (getj l k).ks.length (gI (getj l k).ks) | _ => ∃ q u, v = .slice (some ⟨q, 0, none⟩) 1 1 ∧ Blk w' q 42 #[.int .i64 (getj l k).v, u] ∧ Sl 3 1 w' f (8 + k * 2) w.heap.size u (getj l k).ks.length (gI (getj l k).ks)) ?_ ?_ ?_
      · decide
      · intro i v f wx f2 wy hi hf hb h
        have hi2 : i = 0 ∨ i = 1 ∨ i = 2 ∨ i = 3 ∨ i = 4 ∨ i = 5 ∨ i = 6 ∨ i = 7 ∨ i = 8 ∨ i = 9 ∨ i = 10 ∨ i = 11 ∨ i = 12 ∨ i = 13 ∨ i = 14 := by omega
        rcases hi2 with rfl | rfl | rfl | rfl | rfl | rfl | rfl | rfl | rfl | rfl | rfl | rfl | rfl | rfl | rfl
        · exact h
        · exact h
        · exact h
        · exact h
        · exact h
        · exact h
        · exact h.elim fun q hq => ⟨q, hq.1, hq.2.1.below hb hq.2.1.lt, (hf q hq.2.1.lt).trans hq.2.2.1, hq.2.2.2⟩
        · exact h
        · exact h
        · exact h
        · exact h
        · exact h
        · exact (h.relab hf).next hb
        · exact h.elim fun u hk2 => ⟨u, hk2.1, (hk2.2.relab hf).next hb⟩
        · exact h.elim fun q h => h.elim fun u hk2 => ⟨q, u, hk2.1, hk2.2.1.below hb hk2.2.1.lt, (hk2.2.2.relab hf).next hb⟩
      · intro i o hi ho us f wx hB hf hdep K hK
        have hi2 : i = 0 ∨ i = 1 ∨ i = 2 ∨ i = 3 ∨ i = 4 ∨ i = 5 ∨ i = 6 ∨ i = 7 ∨ i = 8 ∨ i = 9 ∨ i = 10 ∨ i = 11 ∨ i = 12 ∨ i = 13 ∨ i = 14 := by omega
        rcases hi2 with rfl | rfl | rfl | rfl | rfl | rfl | rfl | rfl | rfl | rfl | rfl | rfl | rfl | rfl | rfl
        · simp only [List.getElem?_toArray, List.getElem?_cons_zero, Option.some.injEq] at ho
          subst ho
          refine step_value (a := ⟨_, []⟩) (w' := wx) (v := ?_) ?_ ?_ ?_
          rotate_left
          · rfl
          · try dsimp only
            skip
            first | (go_simp; done) | (go_simp; with_reducible rfl)
          · exact hK _ f wx (fun _ _ => rfl) (Below.refl _ _) (by rfl)
        · simp only [List.getElem?_toArray, List.getElem?_cons_zero, List.getElem?_cons_succ, Option.some.injEq] at ho
          subst ho
          refine step_value (a := ⟨_, []⟩) (w' := wx) (v := ?_) ?_ ?_ ?_
          rotate_left
          · rfl
          · try dsimp only
            skip
            first | (go_simp; done) | (go_simp; with_reducible rfl)
          · exact hK _ f wx (fun _ _ => rfl) (Below.refl _ _) (by rfl)
        · simp only [List.getElem?_toArray, List.getElem?_cons_zero, List.getElem?_cons_succ, Option.some.injEq] at ho
          subst ho
          refine step_value (a := ⟨_, []⟩) (w' := wx) (v := ?_) ?_ ?_ ?_
          rotate_left
          · rfl
          · try dsimp only
            skip
            first | (go_simp; done) | (go_simp; with_reducible rfl)
          · exact hK _ f wx (fun _ _ => rfl) (Below.refl _ _) (by rfl)
        · simp only [List.getElem?_toArray, List.getElem?_cons_zero, List.getElem?_cons_succ, Option.some.injEq] at ho
          subst ho
          have e1 : (us 12) = .slice (some ⟨b, off, none⟩) l.length c := hdep ⟨1, .data⟩ (by simp) (by rfl)
          have e2 : (us 13) = .int .i64 (k : Int) := hdep ⟨2, .data⟩ (by simp) (by rfl)
          refine step_value (a := ⟨_, []⟩) (w' := wx) (v := ?_) ?_ ?_ ?_
          rotate_left
          · rfl
          · try dsimp only
            simp only [e1, e2]
            first | (go_simp; done) | (go_simp; with_reducible rfl)
          · exact hK _ f wx (fun _ _ => rfl) (Below.refl _ _) (by rfl)
        · simp only [List.getElem?_toArray, List.getElem?_cons_zero, List.getElem?_cons_succ, Option.some.injEq] at ho
          subst ho
          have e3 : (us 14) = .pointer (some ⟨b, off + k * 2, none⟩) := hdep ⟨3, .data⟩ (by simp) (by rfl)
          refine step_value (a := ⟨_, []⟩) (w' := wx) (v := ?_) ?_ ?_ ?_
          rotate_left
          · rfl
          · try dsimp only
            simp only [e3]
            first | (go_simp; done) | (go_simp; with_reducible rfl)
          · exact hK _ f wx (fun _ _ => rfl) (Below.refl _ _) (by rfl)
        · simp only [List.getElem?_toArray, List.getElem?_cons_zero, List.getElem?_cons_succ, Option.some.injEq] at ho
          subst ho
          have e4 : (us 15) = .pointer (some ⟨b, off + k * 2, none⟩) := hdep ⟨4, .data⟩ (by simp) (by rfl)
          have hx := hcv.out wx hB
          refine step_value (a := ⟨_, []⟩) (w' := wx) (v := .int .i64 (getj l k).v) ?_ ?_ ?_
          · rfl
          · try dsimp only
            simp only [e4]
            first | (go_simp; done) | (go_simp; with_reducible rfl)
          · exact hK _ f wx (fun _ _ => rfl) (Below.refl _ _) (by rfl)
        · simp only [List.getElem?_toArray, List.getElem?_cons_zero, List.getElem?_cons_succ, Option.some.injEq] at ho
          subst ho
          refine step_value (a := ⟨_, []⟩) (w' := wx.alloc (.cells #[] 3)) (v := .slice (some ⟨wx.heap.size, 0, none⟩) 0 0) ?_ ?_ ?_
          · rfl
          · try dsimp only
            first | (go_simp; done) | (go_simp; with_reducible rfl)
          · exact hK _ (lab f wx.heap.size (8 + k * 2)) _ (fun b hb => lab_old hb) (below1 _ _) ⟨_, rfl, Blk.new wx _ _, lab_at _ _ _, Nat.le_trans hbw.out.size hB.size⟩
        · simp only [List.getElem?_toArray, List.getElem?_cons_zero, List.getElem?_cons_succ, Option.some.injEq] at ho
          subst ho
          refine step_value (a := ⟨_, []⟩) (w' := wx) (v := ?_) ?_ ?_ ?_
          rotate_left
          · rfl
          · try dsimp only
            skip
            first | (go_simp; done) | (go_simp; with_reducible rfl)
          · exact hK _ f wx (fun _ _ => rfl) (Below.refl _ _) (by rfl)
        · simp only [List.getElem?_toArray, List.getElem?_cons_zero, List.getElem?_cons_succ, Option.some.injEq] at ho
          subst ho
          refine step_value (a := ⟨_, []⟩) (w' := wx) (v := ?_) ?_ ?_ ?_
          rotate_left
          · rfl
          · try dsimp only
            skip
            first | (go_simp; done) | (go_simp; with_reducible rfl)
          · exact hK _ f wx (fun _ _ => rfl) (Below.refl _ _) (by rfl)
        · simp only [List.getElem?_toArray, List.getElem?_cons_zero, List.getElem?_cons_succ, Option.some.injEq] at ho
          subst ho
          have e7 : (us 18) = .slice (some ⟨b, off, none⟩) l.length c := hdep ⟨7, .data⟩ (by simp) (by rfl)
          have e8 : (us 19) = .int .i64 (k : Int) := hdep ⟨8, .data⟩ (by simp) (by rfl)
          refine step_value (a := ⟨_, []⟩) (w' := wx) (v := ?_) ?_ ?_ ?_
          rotate_left
          · rfl
          · try dsimp only
            simp only [e7, e8]
            first | (go_simp; done) | (go_simp; with_reducible rfl)
          · exact hK _ f wx (fun _ _ => rfl) (Below.refl _ _) (by rfl)
        · simp only [List.getElem?_toArray, List.getElem?_cons_zero, List.getElem?_cons_succ, Option.some.injEq] at ho
          subst ho
          have e9 : (us 20) = .pointer (some ⟨b, off + k * 2, none⟩) := hdep ⟨9, .data⟩ (by simp) (by rfl)
          refine step_value (a := ⟨_, []⟩) (w' := wx) (v := ?_) ?_ ?_ ?_
          rotate_left
          · rfl
          · try dsimp only
            simp only [e9]
            first | (go_simp; done) | (go_simp; with_reducible rfl)
          · exact hK _ f wx (fun _ _ => rfl) (Below.refl _ _) (by rfl)
        · simp only [List.getElem?_toArray, List.getElem?_cons_zero, List.getElem?_cons_succ, Option.some.injEq] at ho
          subst ho
          have e10 : (us 21) = .pointer (some ⟨b, off + k * 2 + 1, none⟩) := hdep ⟨10, .data⟩ (by simp) (by rfl)
          have hx := hck.out wx hB
          refine step_value (a := ⟨_, []⟩) (w' := wx) (v := (.slice A' (getj l k).ks.length c')) ?_ ?_ ?_
          · rfl
          · try dsimp only
            simp only [e10]
            first | (go_simp; done) | (go_simp; with_reducible rfl)
          · exact hK _ f wx (fun _ _ => rfl) (Below.refl _ _) (by rfl)
        · simp only [List.getElem?_toArray, List.getElem?_cons_zero, List.getElem?_cons_succ, Option.some.injEq] at ho
          subst ho
          have e6 : ∃ q, (us 17) = .slice (some ⟨q, 0, none⟩) 0 0 ∧ Blk wx q 3 #[] ∧ f q = (8 + k * 2) ∧ w.heap.size ≤ q := hdep ⟨6, .data⟩ (by simp) (by rfl)
          have e11 : (us 22) = .slice A' (getj l k).ks.length c' := hdep ⟨11, .data⟩ (by simp) (by rfl)
          obtain ⟨q6, h6, h7, h8, h9⟩ := e6
          obtain ⟨v', w2, f2, hr, hS2, hb2, hf2⟩ := run_append_empty (P := Try.prog) wx 26 26 3 i1 _ 1 8 Try.underlying26 hi1 hy0 hy1 hy2 rfl (by omega) q6 h7 h8 h9 A' (getj l k).ks.length c' (gI (getj l k).ks) (hin.out wx hB).cells (by have := hsz k; have : maxLen = 9223372036854775807 := rfl; omega) (by have := hsz k; omega)
          exact step_append (a := ⟨_, []⟩) wx _ _ 26 rfl rfl h6 e11 hr (hK v' f2 w2 hf2 hb2 hS2)
        · simp only [List.getElem?_toArray, List.getElem?_cons_zero, List.getElem?_cons_succ, Option.some.injEq] at ho
          subst ho
          have e5 : (us 16) = .int .i64 (getj l k).v := hdep ⟨5, .data⟩ (by simp) (by rfl)
          have e12 : Sl 3 1 wx f (8 + k * 2) w.heap.size (us 23) (getj l k).ks.length (gI (getj l k).ks) := hdep ⟨12, .data⟩ (by simp) (by rfl)
          obtain ⟨Au, cu, hu⟩ := e12.form
          rw [hu] at e12
          refine step_value (a := ⟨_, []⟩) (w' := wx) (v := .agg #[.int .i64 (getj l k).v, .slice Au (getj l k).ks.length cu]) ?_ ?_ ?_
          · rfl
          · try dsimp only
            simp only [e5, hu]
            first | (go_simp; done) | (go_simp; with_reducible rfl)
          · exact hK _ f wx (fun _ _ => rfl) (Below.refl _ _) ⟨_, rfl, e12⟩
        · simp only [List.getElem?_toArray, List.getElem?_cons_zero, List.getElem?_cons_succ, Option.some.injEq] at ho
          subst ho
          have e13 : ∃ u, (us 24) = .agg #[.int .i64 (getj l k).v, u] ∧ Sl 3 1 wx f (8 + k * 2) w.heap.size u (getj l k).ks.length (gI (getj l k).ks) := hdep ⟨13, .data⟩ (by simp) (by rfl)
          obtain ⟨u, hu, hS⟩ := e13
          refine step_value (a := ⟨_, []⟩) (w' := wx.alloc (.cells #[.int .i64 (getj l k).v, u] 42)) (v := .slice (some ⟨wx.heap.size, 0, none⟩) 1 1) ?_ ?_ ?_
          · rfl
          · try dsimp only
            simp only [hu]
            first | (go_simp; done) | (go_simp; with_reducible rfl)
          · exact hK _ f _ (fun _ _ => rfl) (below1 _ _) ⟨_, u, rfl, Blk.new wx _ _, hS.next (below1 _ _)⟩
      · intro us f wx hB hf F
        have e0 : (us 11) = u3 := F 0 (by omega)
        have e1 : (us 12) = .slice (some ⟨b, off, none⟩) l.length c := F 1 (by omega)
        have e2 : (us 13) = .int .i64 (k : Int) := F 2 (by omega)
        have e3 : (us 14) = .pointer (some ⟨b, off + k * 2, none⟩) := F 3 (by omega)
        have e4 : (us 15) = .pointer (some ⟨b, off + k * 2, none⟩) := F 4 (by omega)
        have e5 : (us 16) = .int .i64 (getj l k).v := F 5 (by omega)
        have e6 : ∃ q, (us 17) = .slice (some ⟨q, 0, none⟩) 0 0 ∧ Blk wx q 3 #[] ∧ f q = (8 + k * 2) ∧ w.heap.size ≤ q := F 6 (by omega)
        have e7 : (us 18) = .slice (some ⟨b, off, none⟩) l.length c := F 7 (by omega)
        have e8 : (us 19) = .int .i64 (k : Int) := F 8 (by omega)
        have e9 : (us 20) = .pointer (some ⟨b, off + k * 2, none⟩) := F 9 (by omega)
        have e10 : (us 21) = .pointer (some ⟨b, off + k * 2 + 1, none⟩) := F 10 (by omega)
        have e11 : (us 22) = .slice A' (getj l k).ks.length c' := F 11 (by omega)
        have e12 : Sl 3 1 wx f (8 + k * 2) w.heap.size (us 23) (getj l k).ks.length (gI (getj l k).ks) := F 12 (by omega)
        have e13 : ∃ u, (us 24) = .agg #[.int .i64 (getj l k).v, u] ∧ Sl 3 1 wx f (8 + k * 2) w.heap.size u (getj l k).ks.length (gI (getj l k).ks) := F 13 (by omega)
        have e14 : ∃ q u, (us 25) = .slice (some ⟨q, 0, none⟩) 1 1 ∧ Blk wx q 42 #[.int .i64 (getj l k).v, u] ∧ Sl 3 1 wx f (8 + k * 2) w.heap.size u (getj l k).ks.length (gI (getj l k).ks) := F 14 (by omega)
        clear F
        simp only [List.drop_succ_cons, List.drop_zero]
        generalize us 11 = y11 at *
        generalize us 12 = y12 at *
        generalize us 13 = y13 at *
        generalize us 14 = y14 at *
        generalize us 15 = y15 at *
        generalize us 16 = y16 at *
        generalize us 17 = y17 at *
        generalize us 18 = y18 at *
        generalize us 19 = y19 at *
        generalize us 20 = y20 at *
        generalize us 21 = y21 at *
        generalize us 22 = y22 at *
        generalize us 23 = y23 at *
        generalize us 24 = y24 at *
        generalize us 25 = y25 at *
        subst e0
        obtain ⟨q, u, h25, hQ, hSu⟩ := e14
        subst h25
        clear e1 e2 e3 e4 e5 e6 e7 e8 e9 e10 e11 e12 e13
        obtain ⟨Au, cu, hu⟩ := hSu.form
        subst hu
        have hHx := (hH.out.relab hf).next hB
        have hEx := fun j hj => ((hE.out j hj).relab hf).next hB
        have hcs : CellsAt wx (some ⟨q, 0, none⟩) (1 * 2) (fun j => if j = 0 then .int .i64 (getj l k).v else .slice Au (getj l k).ks.length cu) := by
          refine ⟨fun j hj => ?_, fun _ => ⟨q, 0, rfl, fun j hj => ?_⟩⟩
          · dsimp only
            split <;> rfl
          · have h2 : j = 0 ∨ j = 1 := by omega
            rcases h2 with rfl | rfl
            · simpa using hQ.cell 0
            · simpa using hQ.cell 1
        have hWx : w.heap.size ≤ wx.heap.size := Nat.le_trans hbw.out.size hB.size
        have hbx := (below_then hbw.out hB)
        have hfx : ∀ b, b < w.heap.size → f b = f0 b := fun b hb => (hf b (Nat.lt_of_lt_of_le hb hbw.out.size)).trans (hf0.out b hb)
        replace hHx := hide hHx
        replace hEx := hide hEx
        replace hSu := hide hSu
        replace hbx := hide hbx
        replace hfx := hide hfx
        replace hWx := hide hWx
        replace hcs := hide hcs
        clear hQ hB hf hH hE hbw hf0 hcv hck hin
        refine wpList_append_slv _ rfl _ _ _ rfl 42 i2 _ 2 32 Try.underlying23 hi2 hz0 hz1 hz2 rfl (by omega) y11 k (gJob l kv) rfl hHx.out (some ⟨q, 0, none⟩) 1 1 _ rfl hcs.out (by have : maxLen = 9223372036854775807 := rfl; omega) (by omega) hWx.out ?_
        intro v2 w2 f2 hv2 hL2 hf2
        have hN := hide (hv2.congr (g' := gJob l (updV kv k (.slice Au (getj l k).ks.length cu))) (fun j hj => gJob_more j hj))
        have hkeep : ∀ {n m : Nat} {v : Value} {g : Nat → Value}, m ≠ 1 → Sl 3 1 wx f m w.heap.size v n g → Sl 3 1 w2 f2 m w.heap.size v n g := fun hm h => (h.relab hf2).keep (fun b hb _ hl => hL2.block b hl (fun e => hm (by rw [← hb, hf2 b hl]; exact e.1)))
        have hNE := hide (show ∀ j, j < k + 1 → Sl 3 1 w2 f2 (8 + j * 2) w.heap.size (updV kv k (.slice Au (getj l k).ks.length cu) j) (getj l j).ks.length (gI (getj l j).ks) from fun j hj => by
          by_cases e : j = k
          · subst e
            rw [updV_at]
            exact hkeep (by omega) hSu.out
          · rw [updV_far e]
            exact hkeep (by omega) (hEx.out j (by omega)))
        have hNb := hide (hbx.out.trans (hL2.below hWx.out))
        have hNf := hide (show ∀ b, b < w.heap.size → f2 b = f0 b from fun b hb => (hf2 b (Nat.lt_of_lt_of_le hb hWx.out)).trans (hfx.out b hb))
        clear hv2 hL2 hf2 hkeep hHx hEx hSu hbx hfx hcs hWx
        go_wp2_with fail
        go_roundw
        case rel => exact ⟨k + 1, _, _, by omega, by go_num, hN, hNE, hNb, hNf⟩
        case measure => simp [intOf]; omega
    · obtain rfl : k = l.length := by omega
      go_wp2_with fail
      go_ret
      exact ⟨_, f, kv, rfl, ⟨hH.out, hE.out⟩, hbw.out, hf0.out⟩
end Go.Proofs.Ytfnphnjadknoaaa

namespace Go.Proofs.Ytfnphnjadknoaaa
open Go.RowKit

structure BoxO (w : World) (f : Nat → Nat) (B g : Nat) (x : PV) (p : PoolD) : Prop where
  box : Blk w g 28 #[x.L, x.D, x.R, x.N, x.F, x.M, x.V]
  fg : f g = 0
  pool : PoolO w f B x p
section
variable {w w' w1 : World} {f f' : Nat → Nat} {B g : Nat} {x : PV} {p : PoolD} {l j W : Nat}
theorem BoxO.next (h : BoxO w f B g x p) (hb : Below w.heap.size w w') : BoxO w' f B g x p := ⟨h.box.below hb h.box.lt, h.fg, h.pool.next hb⟩
theorem BoxO.relab (h : BoxO w f B g x p) (hf : ∀ b, b < w.heap.size → f' b = f b) : BoxO w f' B g x p := ⟨h.box, by rw [hf _ h.box.lt]; exact h.fg, h.pool.relab hf⟩
theorem BoxO.set_ran (h : BoxO w f B g x p) (hj : j < p.ran.length) {q off c : Nat} (hv : x.R = .slice (some ⟨q, off, none⟩) p.ran.length c) (u : Bool) :
    BoxO (w.setCell ⟨q, off + j, none⟩ (.bool u)) f B g x { p with ran := p.ran.set j u } ∧ Lab f 3 B w (w.setCell ⟨q, off + j, none⟩ (.bool u)) := by
  obtain ⟨q', off', c', e, h1, h2, -⟩ := h.pool.ran.at_ (k := j) (by omega)
  rw [hv] at e
  cases e
  have hL : Lab f 3 B w (w.setCell ⟨q, off + j, none⟩ (.bool u)) := Lab.set_ ⟨h1, h2⟩ _
  have hnew : Sl 4 1 (w.setCell ⟨q, off + j, none⟩ (.bool u)) f 3 B x.R (p.ran.set j u).length (gB (p.ran.set j u)) := by
    rw [List.length_set]
    exact (h.pool.ran.set_ hv (by omega) _).congr (fun k _ => gB_set u hj k)
  exact ⟨⟨hL.blk h.box (by rw [h.fg]; omega), h.fg, ⟨h.pool.jobs.labs hL (by omega), h.pool.rows.labs hL (by omega), hnew, h.pool.dn.other hL (by omega), h.pool.lf.other hL (by omega), h.pool.sm.other hL (by omega), h.pool.vl.other hL (by omega)⟩⟩, hL⟩
theorem BoxO.set_dn (h : BoxO w f B g x p) (hj : j < p.dn.length) {q off c : Nat} (hv : x.N = .slice (some ⟨q, off, none⟩) p.dn.length c) (u : Bool) :
    BoxO (w.setCell ⟨q, off + j, none⟩ (.bool u)) f B g x { p with dn := p.dn.set j u } ∧ Lab f 4 B w (w.setCell ⟨q, off + j, none⟩ (.bool u)) := by
  obtain ⟨q', off', c', e, h1, h2, -⟩ := h.pool.dn.at_ (k := j) (by omega)
  rw [hv] at e
  cases e
  have hL : Lab f 4 B w (w.setCell ⟨q, off + j, none⟩ (.bool u)) := Lab.set_ ⟨h1, h2⟩ _
  have hnew : Sl 4 1 (w.setCell ⟨q, off + j, none⟩ (.bool u)) f 4 B x.N (p.dn.set j u).length (gB (p.dn.set j u)) := by
    rw [List.length_set]
    exact (h.pool.dn.set_ hv (by omega) _).congr (fun k _ => gB_set u hj k)
  exact ⟨⟨hL.blk h.box (by rw [h.fg]; omega), h.fg, ⟨h.pool.jobs.labs hL (by omega), h.pool.rows.labs hL (by omega), h.pool.ran.other hL (by omega), hnew, h.pool.lf.other hL (by omega), h.pool.sm.other hL (by omega), h.pool.vl.other hL (by omega)⟩⟩, hL⟩
theorem BoxO.set_lf (h : BoxO w f B g x p) (hj : j < p.lf.length) {q off c : Nat} (hv : x.F = .slice (some ⟨q, off, none⟩) p.lf.length c) (u : Int) :
    BoxO (w.setCell ⟨q, off + j, none⟩ (.int .i64 u)) f B g x { p with lf := p.lf.set j u } ∧ Lab f 5 B w (w.setCell ⟨q, off + j, none⟩ (.int .i64 u)) := by
  obtain ⟨q', off', c', e, h1, h2, -⟩ := h.pool.lf.at_ (k := j) (by omega)
  rw [hv] at e
  cases e
  have hL : Lab f 5 B w (w.setCell ⟨q, off + j, none⟩ (.int .i64 u)) := Lab.set_ ⟨h1, h2⟩ _
  have hnew : Sl 3 1 (w.setCell ⟨q, off + j, none⟩ (.int .i64 u)) f 5 B x.F (p.lf.set j u).length (gI (p.lf.set j u)) := by
    rw [List.length_set]
    exact (h.pool.lf.set_ hv (by omega) _).congr (fun k _ => gI_set u hj k)
  exact ⟨⟨hL.blk h.box (by rw [h.fg]; omega), h.fg, ⟨h.pool.jobs.labs hL (by omega), h.pool.rows.labs hL (by omega), h.pool.ran.other hL (by omega), h.pool.dn.other hL (by omega), hnew, h.pool.sm.other hL (by omega), h.pool.vl.other hL (by omega)⟩⟩, hL⟩
theorem BoxO.set_sm (h : BoxO w f B g x p) (hj : j < p.sm.length) {q off c : Nat} (hv : x.M = .slice (some ⟨q, off, none⟩) p.sm.length c) (u : Int) :
    BoxO (w.setCell ⟨q, off + j, none⟩ (.int .i64 u)) f B g x { p with sm := p.sm.set j u } ∧ Lab f 6 B w (w.setCell ⟨q, off + j, none⟩ (.int .i64 u)) := by
  obtain ⟨q', off', c', e, h1, h2, -⟩ := h.pool.sm.at_ (k := j) (by omega)
  rw [hv] at e
  cases e
  have hL : Lab f 6 B w (w.setCell ⟨q, off + j, none⟩ (.int .i64 u)) := Lab.set_ ⟨h1, h2⟩ _
  have hnew : Sl 3 1 (w.setCell ⟨q, off + j, none⟩ (.int .i64 u)) f 6 B x.M (p.sm.set j u).length (gI (p.sm.set j u)) := by
    rw [List.length_set]
    exact (h.pool.sm.set_ hv (by omega) _).congr (fun k _ => gI_set u hj k)
  exact ⟨⟨hL.blk h.box (by rw [h.fg]; omega), h.fg, ⟨h.pool.jobs.labs hL (by omega), h.pool.rows.labs hL (by omega), h.pool.ran.other hL (by omega), h.pool.dn.other hL (by omega), h.pool.lf.other hL (by omega), hnew, h.pool.vl.other hL (by omega)⟩⟩, hL⟩
theorem BoxO.set_vl (h : BoxO w f B g x p) (hj : j < p.vl.length) {q off c : Nat} (hv : x.V = .slice (some ⟨q, off, none⟩) p.vl.length c) (u : Int) :
    BoxO (w.setCell ⟨q, off + j, none⟩ (.int .i64 u)) f B g x { p with vl := p.vl.set j u } ∧ Lab f 7 B w (w.setCell ⟨q, off + j, none⟩ (.int .i64 u)) := by
  obtain ⟨q', off', c', e, h1, h2, -⟩ := h.pool.vl.at_ (k := j) (by omega)
  rw [hv] at e
  cases e
  have hL : Lab f 7 B w (w.setCell ⟨q, off + j, none⟩ (.int .i64 u)) := Lab.set_ ⟨h1, h2⟩ _
  have hnew : Sl 3 1 (w.setCell ⟨q, off + j, none⟩ (.int .i64 u)) f 7 B x.V (p.vl.set j u).length (gI (p.vl.set j u)) := by
    rw [List.length_set]
    exact (h.pool.vl.set_ hv (by omega) _).congr (fun k _ => gI_set u hj k)
  exact ⟨⟨hL.blk h.box (by rw [h.fg]; omega), h.fg, ⟨h.pool.jobs.labs hL (by omega), h.pool.rows.labs hL (by omega), h.pool.ran.other hL (by omega), h.pool.dn.other hL (by omega), h.pool.lf.other hL (by omega), h.pool.sm.other hL (by omega), hnew⟩⟩, hL⟩
theorem BoxO.drew (h : BoxO w f B g x p) : BoxO w.drew f B g x p := h.next (Below.refl _ _).drew
theorem BoxO.alloc (h : BoxO w f B g x p) (o : Obj) : BoxO (w.alloc o) f B g x p := h.next (below1 w o)
theorem BoxO.put_row (h : BoxO w f B g x p) (hW : W < p.dq.length) (hL : Lab f (9 + W * 2) B w w1) (hf : ∀ b, b < w.heap.size → f' b = f b) {v' : Value} {r : List Int} (hS : Sl 3 1 w1 f' (9 + W * 2) B v' r.length (gI r)) {bD oD cD : Nat} (hD : x.D = .slice (some ⟨bD, oD, none⟩) p.dq.length cD) :
    BoxO (w1.setCell ⟨bD, oD + W, none⟩ v') f' B g { x with rv := updV x.rv W v' } { p with dq := p.dq.set W r } ∧ OwnC f B w (w1.setCell ⟨bD, oD + W, none⟩ v') := by
  obtain ⟨q', off', c', e, h1, h2, h3, -⟩ := h.pool.rows.heads.at_ (k := W) (by omega)
  rw [hD] at e
  cases e
  have hL' := hL.relab hf
  have fD : f' bD = 2 := by rw [hf _ h3]; exact h1
  have hM : Lab f' 2 B w1 (w1.setCell ⟨bD, oD + W, none⟩ v') := Lab.set_ ⟨fD, h2⟩ _
  have fg : f' g = 0 := by rw [hf _ h.box.lt]; exact h.fg
  refine ⟨⟨hM.blk (hL'.blk h.box (by rw [fg]; omega)) (by rw [fg]; omega), fg,
    ⟨((h.pool.jobs.relab hf).labs hL' (by omega)).labs hM (by omega), ⟨?_, fun k hk => ?_⟩, ((h.pool.ran.relab hf).other hL' (by omega)).other hM (by omega), ((h.pool.dn.relab hf).other hL' (by omega)).other hM (by omega), ((h.pool.lf.relab hf).other hL' (by omega)).other hM (by omega), ((h.pool.sm.relab hf).other hL' (by omega)).other hM (by omega), ((h.pool.vl.relab hf).other hL' (by omega)).other hM (by omega)⟩⟩,
    (OwnC.of_lab hL (by omega)).then_ hf (OwnC.of_lab hM (by omega))⟩
  · show Sl 35 1 _ f' 2 B x.D (p.dq.set W r).length (updV x.rv W v')
    rw [List.length_set]
    exact ((h.pool.rows.heads.relab hf).other hL' (by omega)).set_ hD (by omega) _
  · have hk : k < (p.dq.set W r).length := hk
    rw [List.length_set] at hk
    show Sl 3 1 _ f' (9 + k * 2) B (updV x.rv W v' k) (getq (p.dq.set W r) k).length (gI (getq (p.dq.set W r) k))
    by_cases e : k = W
    · subst e
      rw [updV_at, getq_at hW]
      exact hS.other hM (by omega)
    · rw [updV_far e, getq_far e]
      exact (((h.pool.rows.each k hk).relab hf).other hL' (by omega)).other hM (by omega)
end
end Go.Proofs.Ytfnphnjadknoaaa
