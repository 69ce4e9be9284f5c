/- The walk of laws.FnExactPoolNew: it answers true and leaves its argument. -/
import Derived.Test.YtmhldlpjiepmpaaPnX
import Derived.Test.YtmhldlpjiepmpaaPNi
import Derived.Test.YtmhldlpjiepmpaaPNs
import Derived.Test.YtmhldlpjiepmpaaJbI
namespace Go.Proofs.Ytmhldlpjiepmpaa
open Go.RowKit

theorem specNew_i {w : World} {lo hi : Nat} {v : Value} {l : List JobD} (K : Int) (hz : sizeJ l ≤ 1048576) (h : JobsI w lo hi v l) :
    Calls Try.prog 38 #[v, .int .i64 K] w fun e w' => ∃ x, e = .returned (.tuple #[.agg #[x.L, x.D, x.R, x.N, x.F, x.M, x.V], .bool (newR l K).2]) ∧ PoolI w' w.heap.size w'.heap.size x (newR l K).1 ∧ Below w.heap.size w w' := by
  obtain ⟨A, c, rfl, ha⟩ := h.at_
  have h1 : l.length ≤ sizeJ l := by unfold sizeJ; omega
  refine (spoolNew_any A l c K _ w (by omega) (fun k => Nat.le_trans (sizeJ_kids k) hz) (fun _ h => h) (hide ha)).mono ?_
  rintro e w' ⟨x, f, rfl, hP, hb⟩
  exact ⟨x, rfl, .of hP, hb⟩
theorem implNew_i {w : World} {lo hi : Nat} {v : Value} {l : List JobD} (K : Int) (hz : sizeJ l ≤ 1048576) (h : JobsI w lo hi v l) :
    Calls Try.prog 39 #[v, .int .i64 K] w fun e w' => ∃ x, e = .returned (.tuple #[.agg #[x.L, x.D, x.R, x.N, x.F, x.M, x.V], .bool (newR l K).2]) ∧ PoolI w' w.heap.size w'.heap.size x (newR l K).1 ∧ Below w.heap.size w w' := by
  obtain ⟨A, c, rfl, ha⟩ := h.at_
  have h1 : l.length ≤ sizeJ l := by unfold sizeJ; omega
  refine (poolNew_any A l c K _ w (by omega) (fun k => Nat.le_trans (sizeJ_kids k) hz) (fun _ h => h) (hide ha)).mono ?_
  rintro e w' ⟨x, f, rfl, hP, hb⟩
  exact ⟨x, rfl, .of hP, hb⟩
/-- A tree is small. -/
theorem Tree.small {l : List JobD} (h : Tree l) : sizeJ l ≤ 1000 := by
  have hk : ∀ j, j < l.length → (getj l j).ks.length ≤ l.length := fun j hj => once_len _ _ (fun y hy => by have := h.mem hj hy; omega) (fun y => by
    by_cases hy : y ∈ (getj l j).ks
    · rw [h.once hj hy]; omega
    · rw [List.count_eq_zero.2 hy]; omega)
  have hs : ∀ (m : List Nat), (∀ x ∈ m, x ≤ 30) → m.sum ≤ m.length * 30 := by
    intro m
    induction m with
    | nil => intro _; simp
    | cons a m ih =>
      intro hm
      have h1 := hm a (by simp)
      have h2 := ih (fun x hx => hm x (by simp [hx]))
      simp only [List.sum_cons, List.length_cons]
      omega
  have h30 := h.top
  have h4 := hs (lensJ l) (fun x hx => by
    obtain ⟨j, hj, hjx⟩ := List.mem_iff_getElem.1 hx
    have hj2 : j < l.length := by simpa [lensJ] using hj
    have h5 := hk j hj2
    have h6 := lensJ_get l j
    rw [List.getD_eq_getElem?_getD, List.getElem?_eq_getElem hj, Option.getD_some, hjx] at h6
    omega)
  rw [lensJ_len] at h4
  unfold sizeJ
  omega
theorem newR_size (l : List JobD) (K : Int) : poolSize (newR l K).1 ≤ 2000 := by
  by_cases h : jobsB l = true ∧ workB K = true
  · rw [newR_yes h.1 h.2]
    have hT := jobsB_tree h.1
    have h1 := hT.small
    have h2 := hT.top
    have h3 : K.toNat ≤ 4 := by
      have := h.2
      unfold workB at this
      simp at this
      omega
    show poolSize (newP l K.toNat) ≤ 2000
    have hq : sizeQ (newP l K.toNat).dq ≤ 20 := by
      have h4 : K.toNat = 0 ∨ K.toNat = 1 ∨ K.toNat = 2 ∨ K.toNat = 3 ∨ K.toNat = 4 := by omega
      rcases h4 with e | e | e | e | e <;> (rw [e]; simp [newP, sizeQ, lensQ])
    unfold poolSize
    simp only [newP, List.length_replicate] at hq ⊢
    omega
  · rw [newR_no (by
      cases h1 : jobsB l
      · exact .inl rfl
      · cases h2 : workB K
        · exact .inr rfl
        · exact absurd ⟨h1, h2⟩ h)]
    decide

theorem markJobs_1 {w : World} {lo hi : Nat} {v : Value} {l : List JobD} (hz : sizeJ l ≤ 1048576) (h : JobsI w lo hi v l) :
    Calls Try.prog 41 #[v, .int .i64 1] w fun e w' => e = .returned (.int .i64 ((1 + sizeJ l : Nat) : Int)) ∧ Inn lo hi w w' := markJobs_i 1 hz (by omega) h
theorem markPool_1 {w : World} {lo hi : Nat} {x : PV} {p : PoolD} (hz : poolSize p ≤ 2000) (hhi : hi ≤ w.heap.size) (h : PoolI w lo hi x p) :
    Calls Try.prog 42 #[.agg #[x.L, x.D, x.R, x.N, x.F, x.M, x.V], .int .i64 1] w fun e w' => e = .returned (.int .i64 ((1 + poolMarks p : Nat) : Int)) ∧ PoolI w' lo hi x (markP 1 p) ∧ Inn lo hi w w' := markPool_i 1 (by omega) (by omega) hhi h
theorem heldPool_1 {w : World} {lo hi : Nat} {x : PV} {p : PoolD} (hz : poolSize p ≤ 2000) (h : PoolI w lo hi x (markP 1 p)) :
    Calls Try.prog 43 #[.agg #[x.L, x.D, x.R, x.N, x.F, x.M, x.V], .int .i64 1] w fun e w' => e = .returned (.int .i64 ((1 + poolMarks p : Nat) : Int)) ∧ Below w.heap.size w w' := heldPool_i 1 (by omega) (by omega) h

set_option maxRecDepth 100000 in
set_option maxHeartbeats 12800000 in
theorem exPoolNew_walk (A : Option Addr) (l : List JobD) (c : Nat) (K : Int) (w : World) (ha : JobsAt w (Old w.heap.size) A l) :
    Calls Try.prog 10 #[.slice A l.length c, .int .i64 K] w fun e w' => e = .returned (.bool true) ∧ Below w.heap.size w w' := by
  have E := hide (show ArgJ w.heap.size w A l w from ⟨ha, Nat.le_refl _, Below.refl _ _⟩)
  have ks := szJobS_any A l c (Old w.heap.size) 1048576 w (by omega) (by omega) (fun _ h => h) ha
  obtain ⟨n, hn⟩ : ∃ n, n = w.heap.size := ⟨_, rfl⟩
  rw [← hn] at E
  by_cases hz : sizeJ l ≤ 1048576
  · rw [szR_pos (by omega)] at ks
    obtain ⟨s, hs2⟩ : ∃ s, s = 1048576 - (sizeJ l : Int) := ⟨_, rfl⟩
    have hs : ¬ s < 0 := by omega
    rw [← hs2] at ks
    replace ks := hide ks
    replace hn := hide hn
    have kT := hide (fun w' (h : ArgJ n w A l w') => toJobs_i A c (Old n) hz (fun b (hb : b < n) => Nat.lt_of_lt_of_le hb h.le) h.at_)
    have kS := hide (fun w' lo hi v (h : JobsI w' lo hi v l) => specNew_i (w := w') (lo := lo) (hi := hi) (v := v) K hz h)
    have kI := hide (fun w' lo hi v (h : JobsI w' lo hi v l) => implNew_i (w := w') (lo := lo) (hi := hi) (v := v) K hz h)
    obtain ⟨z, hz9⟩ : ∃ z : Int, z = ((1 + sizeJ l : Nat) : Int) := ⟨_, rfl⟩
    have kM := hide (show ∀ w' lo hi v, JobsI w' lo hi v l → Calls Try.prog 41 #[v, .int .i64 1] w' fun e w2 => e = .returned (.int .i64 z) ∧ Inn lo hi w' w2 from fun w' lo hi v h => by rw [hz9]; exact markJobs_1 hz h)
    have hz0 : ¬ z < 0 := by omega
    have hpz := hide (newR_size l K)
    obtain ⟨pr, hpr⟩ : ∃ pr, pr = (newR l K).1 := ⟨_, rfl⟩
    obtain ⟨ok, hok⟩ : ∃ ok, ok = (newR l K).2 := ⟨_, rfl⟩
    rw [← hpr, ← hok] at kS kI
    rw [← hpr] at hpz
    obtain ⟨mm, hm9⟩ : ∃ z : Int, z = ((1 + poolMarks pr : Nat) : Int) := ⟨_, rfl⟩
    have hH := hide (show ∀ w' x lo hi, PoolI w' lo hi x (markP 1 pr) → Calls Try.prog 43 #[.agg #[x.L, x.D, x.R, x.N, x.F, x.M, x.V], .int .i64 1] w' fun e w2 => e = .returned (.int .i64 mm) ∧ Below w'.heap.size w' w2 from fun w' x lo hi h => by rw [hm9]; exact heldPool_1 hpz.out h)
    have kP := hide (show ∀ w' x lo hi, hi ≤ w'.heap.size → PoolI w' lo hi x pr → Calls Try.prog 42 #[.agg #[x.L, x.D, x.R, x.N, x.F, x.M, x.V], .int .i64 1] w' fun e w2 => e = .returned (.int .i64 mm) ∧ PoolI w2 lo hi x (markP 1 pr) ∧ Inn lo hi w' w2 from fun w' x lo hi hh h => by rw [hm9]; exact markPool_1 hpz.out hh h)
    have hm0 : ¬ mm < 0 := by omega
    have hne : (ok != ok) = false := by cases ok <;> rfl
    clear hs2 ha hpr hok hz hz9 hm9 hpz
    go_enter Try.func10, Try.ntmps10
    go_upto_region 5 with (go_at_call 35; refine ks.out.mono ?_; rintro e w1 ⟨rfl, hb⟩; replace E := hide (E.out.next hb); clear hb)
    go_upto_region 6 with (first | (go_at_call 36; refine (kT.out _ E.out).mono ?_; rintro e wt ⟨v, rfl, hV, hb⟩; replace E := hide (E.out.next hb); replace hV := hide hV; clear hb) | (go_at_call 38; refine (kS.out _ _ _ _ hV.out).mono ?_; rintro e w3 ⟨x, rfl, hP, hb⟩; have hlo := hide (show n ≤ wt.heap.size from E.out.le); replace E := hide (E.out.next hb); obtain ⟨s0, s1, s2, s3, s4, s5, s6, sc0, sc1, sc2, sc3, sc4, sc5, sc6, hx⟩ := hP.slices; obtain ⟨skv, hkv⟩ : ∃ kv, kv = x.kv := ⟨_, rfl⟩; obtain ⟨srv, hrv⟩ : ∃ rv, rv = x.rv := ⟨_, rfl⟩; rw [← hkv, ← hrv] at hx; subst hx; clear hkv hrv; replace hP := hide hP; have hsz := hide hb.size; clear hb hV; dsimp only))
    have hb := below1 w3 (Obj.cells #[.slice s0 pr.js.length sc0, .slice s1 pr.dq.length sc1, .slice s2 pr.ran.length sc2, .slice s3 pr.dn.length sc3, .slice s4 pr.lf.length sc4, .slice s5 pr.sm.length sc5, .slice s6 pr.vl.length sc6] 28)
    have S := hide (show BoxI w3.heap.size wt.heap.size w3.heap.size ⟨.slice s0 pr.js.length sc0, .slice s1 pr.dq.length sc1, .slice s2 pr.ran.length sc2, .slice s3 pr.dn.length sc3, .slice s4 pr.lf.length sc4, .slice s5 pr.sm.length sc5, .slice s6 pr.vl.length sc6, skv, srv⟩ pr (w3.alloc (Obj.cells #[.slice s0 pr.js.length sc0, .slice s1 pr.dq.length sc1, .slice s2 pr.ran.length sc2, .slice s3 pr.dn.length sc3, .slice s4 pr.lf.length sc4, .slice s5 pr.sm.length sc5, .slice s6 pr.vl.length sc6] 28)) from ⟨Blk.new _ _ _, hP.out.next hb⟩)
    replace E := hide (E.out.next hb)
    clear hP hb
    generalize hw : w3.alloc (Obj.cells #[.slice s0 pr.js.length sc0, .slice s1 pr.dq.length sc1, .slice s2 pr.ran.length sc2, .slice s3 pr.dn.length sc3, .slice s4 pr.lf.length sc4, .slice s5 pr.sm.length sc5, .slice s6 pr.vl.length sc6] 28) = w4 at *
    obtain ⟨Sb, hb9⟩ : ∃ b, b = w3.heap.size := ⟨_, rfl⟩
    rw [← hb9] at S hsz ⊢
    obtain ⟨Sl, hl9⟩ : ∃ b, b = wt.heap.size := ⟨_, rfl⟩
    rw [← hl9] at S hsz hlo
    have So := hide (show n ≤ Sl ∧ Sl ≤ Sb ∧ Sb < w4.heap.size from ⟨hlo.out, hsz.out, S.out.cells.2⟩)
    clear hw hb9 hl9 hsz hlo
    go_upto_region 7 with (go_at_call 36; refine (kT.out _ E.out).mono ?_; rintro e w5 ⟨v8, rfl, J, hb⟩; replace E := hide (E.out.next hb); replace S := hide (S.out.next hb); replace J := hide J; have Jo := hide (show Sb < w4.heap.size ∧ w4.heap.size ≤ w5.heap.size from ⟨So.out.2.2, hb.size⟩); clear hb)
    obtain ⟨Jl, hl9⟩ : ∃ b, b = w4.heap.size := ⟨_, rfl⟩
    rw [← hl9] at J Jo
    clear hl9
    go_upto_region 8 with (go_at_call 39; refine (kI.out _ _ _ _ J.out).mono ?_; rintro e w6 ⟨x, rfl, hP, hb⟩; have hlo := hide (show n ≤ w5.heap.size from E.out.le); replace E := hide (E.out.next hb); replace S := hide (S.out.next hb); replace J := hide (J.out.next hb); obtain ⟨i0, i1, i2, i3, i4, i5, i6, ic0, ic1, ic2, ic3, ic4, ic5, ic6, hx⟩ := hP.slices; obtain ⟨ikv, hkv⟩ : ∃ kv, kv = x.kv := ⟨_, rfl⟩; obtain ⟨irv, hrv⟩ : ∃ rv, rv = x.rv := ⟨_, rfl⟩; rw [← hkv, ← hrv] at hx; subst hx; clear hkv hrv; replace hP := hide hP; have hsz := hide hb.size; clear hb; dsimp only)
    have hb := below1 w6 (Obj.cells #[.slice i0 pr.js.length ic0, .slice i1 pr.dq.length ic1, .slice i2 pr.ran.length ic2, .slice i3 pr.dn.length ic3, .slice i4 pr.lf.length ic4, .slice i5 pr.sm.length ic5, .slice i6 pr.vl.length ic6] 28)
    have I := hide (show BoxI w6.heap.size w5.heap.size w6.heap.size ⟨.slice i0 pr.js.length ic0, .slice i1 pr.dq.length ic1, .slice i2 pr.ran.length ic2, .slice i3 pr.dn.length ic3, .slice i4 pr.lf.length ic4, .slice i5 pr.sm.length ic5, .slice i6 pr.vl.length ic6, ikv, irv⟩ pr (w6.alloc (Obj.cells #[.slice i0 pr.js.length ic0, .slice i1 pr.dq.length ic1, .slice i2 pr.ran.length ic2, .slice i3 pr.dn.length ic3, .slice i4 pr.lf.length ic4, .slice i5 pr.sm.length ic5, .slice i6 pr.vl.length ic6] 28)) from ⟨Blk.new _ _ _, hP.out.next hb⟩)
    replace E := hide (E.out.next hb)
    replace S := hide (S.out.next hb)
    replace J := hide (J.out.next hb)
    clear hP hb
    generalize hw : w6.alloc (Obj.cells #[.slice i0 pr.js.length ic0, .slice i1 pr.dq.length ic1, .slice i2 pr.ran.length ic2, .slice i3 pr.dn.length ic3, .slice i4 pr.lf.length ic4, .slice i5 pr.sm.length ic5, .slice i6 pr.vl.length ic6] 28) = w7 at *
    obtain ⟨Ib, hb9⟩ : ∃ b, b = w6.heap.size := ⟨_, rfl⟩
    rw [← hb9] at I hsz ⊢
    obtain ⟨Il, hl9⟩ : ∃ b, b = w5.heap.size := ⟨_, rfl⟩
    rw [← hl9] at I hsz hlo J Jo
    have Io := hide (show n ≤ Il ∧ Il ≤ Ib ∧ Ib < w7.heap.size from ⟨hlo.out, hsz.out, I.out.cells.2⟩)
    clear hw hb9 hl9 hsz hlo
    have O := hide (show n ≤ Sl ∧ Sl ≤ Sb ∧ Sb < Jl ∧ Jl ≤ Il ∧ Il ≤ Ib from ⟨So.out.1, So.out.2.1, Jo.out.1, Jo.out.2, Io.out.2.1⟩)
    obtain ⟨⟨x0, x1, x2, x3, x4, x5, x6⟩, xl⟩ := S.out.cells
    dsimp only at x0 x1 x2 x3 x4 x5 x6
    obtain ⟨⟨y0, y1, y2, y3, y4, y5, y6⟩, yl⟩ := I.out.cells
    dsimp only at y0 y1 y2 y3 y4 y5 y6
    go_upto_region 10 with (go_at_call 40; refine (eqPool_i I.out.pool S.out.pool).mono ?_; rintro e w8 ⟨rfl, hb⟩; replace E := hide (E.out.next hb); replace S := hide (S.out.next hb); replace I := hide (I.out.next hb); replace J := hide (J.out.next hb); clear hb)
    clear x0 x1 x2 x3 x4 x5 x6 xl
    clear y0 y1 y2 y3 y4 y5 y6 yl
    go_upto_region 13 with (first | (go_at_call 36; refine (kT.out _ E.out).mono ?_; rintro e wt ⟨v, rfl, hV, hb⟩; replace E := hide (E.out.next hb); replace S := hide (S.out.next hb); replace I := hide (I.out.next hb); replace J := hide (J.out.next hb); replace hV := hide hV; clear hb) | (go_at_call 37; refine (eqJobs_i J.out hV.out).mono ?_; rintro e w9 ⟨rfl, hb⟩; replace E := hide (E.out.next hb); replace S := hide (S.out.next hb); replace I := hide (I.out.next hb); replace J := hide (J.out.next hb); clear hb hV))
    go_upto_region 14 with (go_at_call 41; refine (kM.out _ _ _ _ J.out).mono ?_; rintro e w10 ⟨rfl, hI⟩; have hq := O.out; replace E := hide (E.out.inn hI (by omega)); replace S := hide (S.out.inn hI (by omega) (by omega)); replace I := hide (I.out.inn hI (by omega) (by omega)); clear hI J hq)
    obtain ⟨⟨x0, x1, x2, x3, x4, x5, x6⟩, xl⟩ := S.out.cells
    dsimp only at x0 x1 x2 x3 x4 x5 x6
    obtain ⟨⟨y0, y1, y2, y3, y4, y5, y6⟩, yl⟩ := I.out.cells
    dsimp only at y0 y1 y2 y3 y4 y5 y6
    go_upto_region 17 with (go_at_call 40; refine (eqPool_i I.out.pool S.out.pool).mono ?_; rintro e w11 ⟨rfl, hb⟩; replace E := hide (E.out.next hb); replace S := hide (S.out.next hb); replace I := hide (I.out.next hb); clear hb)
    clear x0 x1 x2 x3 x4 x5 x6 xl
    clear y0 y1 y2 y3 y4 y5 y6 yl
    obtain ⟨⟨y0, y1, y2, y3, y4, y5, y6⟩, yl⟩ := I.out.cells
    dsimp only at y0 y1 y2 y3 y4 y5 y6
    go_upto_region 19 with (go_at_call 42; refine (kP.out _ _ _ _ (by have := I.out.cells.2; omega) I.out.pool).mono ?_; rintro e w12 ⟨rfl, hM, hI⟩; have hq := O.out; replace E := hide (E.out.inn hI (by omega)); replace S := hide (S.out.inn hI (by omega) (by omega)); have I2 := hide (show BoxI Ib Il Ib _ (markP 1 pr) w12 from ⟨(hI.block Ib I.out.box.lt (by omega)).trans I.out.box, hM⟩); clear hI hM I hq)
    clear y0 y1 y2 y3 y4 y5 y6 yl
    obtain ⟨⟨y0, y1, y2, y3, y4, y5, y6⟩, yl⟩ := I2.out.cells
    dsimp only at y0 y1 y2 y3 y4 y5 y6
    go_upto_region 24 with (go_at_call 43; refine (hH.out _ _ _ _ I2.out.pool).mono ?_; rintro e w13 ⟨rfl, hb⟩; replace E := hide (E.out.next hb); replace S := hide (S.out.next hb); replace I2 := hide (I2.out.next hb); clear hb)
    clear y0 y1 y2 y3 y4 y5 y6 yl
    go_upto_region 25 with (first | (go_at_call 36; refine (kT.out _ E.out).mono ?_; rintro e wt ⟨v, rfl, hV, hb⟩; replace E := hide (E.out.next hb); replace S := hide (S.out.next hb); replace I2 := hide (I2.out.next hb); replace hV := hide hV; clear hb) | (go_at_call 39; refine (kI.out _ _ _ _ hV.out).mono ?_; rintro e w14 ⟨x, rfl, hP, hb⟩; have hlo := hide (show n ≤ wt.heap.size from E.out.le); replace E := hide (E.out.next hb); replace S := hide (S.out.next hb); replace I2 := hide (I2.out.next hb); obtain ⟨h0, h1, h2, h3, h4, h5, h6, hc0, hc1, hc2, hc3, hc4, hc5, hc6, hx⟩ := hP.slices; obtain ⟨hkv, hkv⟩ : ∃ kv, kv = x.kv := ⟨_, rfl⟩; obtain ⟨hrv, hrv⟩ : ∃ rv, rv = x.rv := ⟨_, rfl⟩; rw [← hkv, ← hrv] at hx; subst hx; clear hkv hrv; replace hP := hide hP; have hsz := hide hb.size; clear hb hV; dsimp only))
    have hb := below1 w14 (Obj.cells #[.slice h0 pr.js.length hc0, .slice h1 pr.dq.length hc1, .slice h2 pr.ran.length hc2, .slice h3 pr.dn.length hc3, .slice h4 pr.lf.length hc4, .slice h5 pr.sm.length hc5, .slice h6 pr.vl.length hc6] 28)
    have H := hide (show BoxI w14.heap.size wt.heap.size w14.heap.size ⟨.slice h0 pr.js.length hc0, .slice h1 pr.dq.length hc1, .slice h2 pr.ran.length hc2, .slice h3 pr.dn.length hc3, .slice h4 pr.lf.length hc4, .slice h5 pr.sm.length hc5, .slice h6 pr.vl.length hc6, hkv, hrv⟩ pr (w14.alloc (Obj.cells #[.slice h0 pr.js.length hc0, .slice h1 pr.dq.length hc1, .slice h2 pr.ran.length hc2, .slice h3 pr.dn.length hc3, .slice h4 pr.lf.length hc4, .slice h5 pr.sm.length hc5, .slice h6 pr.vl.length hc6] 28)) from ⟨Blk.new _ _ _, hP.out.next hb⟩)
    replace E := hide (E.out.next hb)
    replace S := hide (S.out.next hb)
    replace I2 := hide (I2.out.next hb)
    clear hP hb
    generalize hw : w14.alloc (Obj.cells #[.slice h0 pr.js.length hc0, .slice h1 pr.dq.length hc1, .slice h2 pr.ran.length hc2, .slice h3 pr.dn.length hc3, .slice h4 pr.lf.length hc4, .slice h5 pr.sm.length hc5, .slice h6 pr.vl.length hc6] 28) = w15 at *
    obtain ⟨Hb, hb9⟩ : ∃ b, b = w14.heap.size := ⟨_, rfl⟩
    rw [← hb9] at H hsz ⊢
    obtain ⟨Hl, hl9⟩ : ∃ b, b = wt.heap.size := ⟨_, rfl⟩
    rw [← hl9] at H hsz hlo
    have Ho := hide (show n ≤ Hl ∧ Hl ≤ Hb ∧ Hb < w15.heap.size from ⟨hlo.out, hsz.out, H.out.cells.2⟩)
    clear hw hb9 hl9 hsz hlo
    obtain ⟨⟨x0, x1, x2, x3, x4, x5, x6⟩, xl⟩ := S.out.cells
    dsimp only at x0 x1 x2 x3 x4 x5 x6
    obtain ⟨⟨y0, y1, y2, y3, y4, y5, y6⟩, yl⟩ := H.out.cells
    dsimp only at y0 y1 y2 y3 y4 y5 y6
    go_upto_region 28 with (go_at_call 40; refine (eqPool_i H.out.pool S.out.pool).mono ?_; rintro e w16 ⟨rfl, hb⟩; replace E := hide (E.out.next hb); replace S := hide (S.out.next hb); replace I2 := hide (I2.out.next hb); replace H := hide (H.out.next hb); clear hb)
    clear x0 x1 x2 x3 x4 x5 x6 xl
    clear y0 y1 y2 y3 y4 y5 y6 yl
    obtain ⟨⟨y0, y1, y2, y3, y4, y5, y6⟩, yl⟩ := I2.out.cells
    dsimp only at y0 y1 y2 y3 y4 y5 y6
    go_wp2_with (go_at_call 43; refine (hH.out _ _ _ _ I2.out.pool).mono ?_; rintro e w17 ⟨rfl, hb⟩; replace E := hide (E.out.next hb); replace S := hide (S.out.next hb); replace I2 := hide (I2.out.next hb); clear hb)
    go_ret
    exact ⟨rfl, by rw [← hn.out]; exact E.out.since⟩
  · rw [szR_neg (by omega)] at ks
    replace ks := hide ks
    replace hn := hide hn
    clear ha
    go_enter Try.func10, Try.ntmps10
    go_wp2_with (go_at_call 35; refine ks.out.mono ?_; rintro e w1 ⟨rfl, hb⟩; replace E := hide (E.out.next hb); clear hb)
    go_ret
    exact ⟨rfl, by rw [← hn.out]; exact E.out.since⟩
end Go.Proofs.Ytmhldlpjiepmpaa
