/- spec.PoolOk, spec.Answer. -/
import Derived.Test.YtfnphnjadknoaaaMp0
import Derived.Test.YtfnphnjadknoaaaMp27
import Derived.Test.YtfnphnjadknoaaaMp29
import Derived.Test.YtfnphnjadknoaaaMp37
namespace Go.Proofs.Ytfnphnjadknoaaa
open Go.RowKit

theorem cmp_acc (zL zM zV nl sm val : Int) (r d : Bool) : (zL != nl || zM != sm || zV != val || (d != (r && nl == 0))) = !(decide (zL = nl) && decide (zM = sm) && decide (zV = val) && (d == (r && decide (nl = 0)))) := by
  have e : (nl == 0) = decide (nl = 0) := rfl
  rw [e]
  by_cases h1 : zL = nl <;> by_cases h2 : zM = sm <;> by_cases h3 : zV = val <;> by_cases h4 : nl = 0 <;> cases r <;> cases d <;> (try simp [h1, h2, h3, h4, bne]) <;> rfl
set_option maxRecDepth 100000 in
set_option maxHeartbeats 25600000 in
theorem ssums_any (a : PA) (p : PoolD) (S : Nat → Prop) (w : World) (hT : Hid (Tree p.js)) (hlen : Hid (p.ran.length = p.js.length ∧ p.dn.length = p.js.length ∧ p.lf.length = p.js.length ∧ p.sm.length = p.js.length ∧ p.vl.length = p.js.length)) (hsz : Hid (∀ k, (getj p.js k).ks.length ≤ 1048576)) (hS : ∀ b, S b → b < w.heap.size) (ha : PoolAt w S a p) :
    Calls Try.prog 69 #[.agg (a.cells p)] w fun e w' => e = .returned (.bool (allB (accB p) p.js.length)) ∧ Below w.heap.size w w' := by
  unfold PA.cells
  obtain ⟨res, hres⟩ : ∃ res, res = allB (accB p) p.js.length := ⟨_, rfl⟩
  rw [← hres]
  replace hres := hide hres
  have h30 := hT.out.top
  have h01 := hT.out.one
  have hb0 := below1 w (Obj.cells #[.slice a.A0 p.js.length a.c0, .slice a.A1 p.dq.length a.c1, .slice a.A2 p.ran.length a.c2, .slice a.A3 p.dn.length a.c3, .slice a.A4 p.lf.length a.c4, .slice a.A5 p.sm.length a.c5, .slice a.A6 p.vl.length a.c6] 28)
  have X0 := Blk.new w 28 #[.slice a.A0 p.js.length a.c0, .slice a.A1 p.dq.length a.c1, .slice a.A2 p.ran.length a.c2, .slice a.A3 p.dn.length a.c3, .slice a.A4 p.lf.length a.c4, .slice a.A5 p.sm.length a.c5, .slice a.A6 p.vl.length a.c6]
  obtain ⟨w0, hw0⟩ : ∃ w0, w0 = w.alloc (Obj.cells #[.slice a.A0 p.js.length a.c0, .slice a.A1 p.dq.length a.c1, .slice a.A2 p.ran.length a.c2, .slice a.A3 p.dn.length a.c3, .slice a.A4 p.lf.length a.c4, .slice a.A5 p.sm.length a.c5, .slice a.A6 p.vl.length a.c6] 28) := ⟨_, rfl⟩
  rw [← hw0] at hb0 X0
  obtain ⟨q, hq⟩ : ∃ q, q = w.heap.size := ⟨_, rfl⟩
  rw [← hq] at X0
  replace X0 := hide X0
  have B0 := hide hb0
  clear hb0
  go_enter Try.func69, Try.ntmps69
  go_upto_region 1 with fail
  rw [← hw0, ← hq]
  clear hw0
  replace hq := hide hq
  go_wp2_with fail
  go_loopw [3] (fun i wr => ∃ j : Nat, j ≤ p.js.length ∧ i = .int .i64 j ∧ Hid (Blk wr q 28 #[.slice a.A0 p.js.length a.c0, .slice a.A1 p.dq.length a.c1, .slice a.A2 p.ran.length a.c2, .slice a.A3 p.dn.length a.c3, .slice a.A4 p.lf.length a.c4, .slice a.A5 p.sm.length a.c5, .slice a.A6 p.vl.length a.c6]) ∧ Hid (Below w.heap.size w wr) ∧ Hid (∀ i, i < j → accB p i = true)) (fun i _ => p.js.length - (intOf i).toNat)
  case atStart => exact ⟨0, by omega, rfl, X0, B0, hide (fun i hi => by omega)⟩
  case round =>
    clear X0 B0
    obtain ⟨j, hj, rfl, X, B, K⟩ := hrel
    by_cases hlt : j < p.js.length
    · have hlt' : (j : Int) < p.js.length := by omega
      obtain ⟨e2, e3, e4, e5, e6⟩ := hlen.out
      have l2 : (j : Int) < p.ran.length := by omega
      have l3 : (j : Int) < p.dn.length := by omega
      have l4 : (j : Int) < p.lf.length := by omega
      have l5 : (j : Int) < p.sm.length := by omega
      have l6 : (j : Int) < p.vl.length := by omega
      have m2 : j < p.ran.length := by omega
      have m3 : j < p.dn.length := by omega
      have m4 : j < p.lf.length := by omega
      have m5 : j < p.sm.length := by omega
      have m6 : j < p.vl.length := by omega
      obtain ⟨⟨x0, -, x2, x3, x4, x5, x6⟩, xl⟩ := box7 X.out
      obtain ⟨b0, o0, eA0, -, xv, AK, cK, xk, -, hkI⟩ := (ha.jobs.below B.out hS).at_ hlt
      obtain ⟨b2, o2, eA2, -, xr⟩ := (ha.ran.below B.out hS).at_ (k := j) (by omega)
      obtain ⟨b3, o3, eA3, -, xd⟩ := (ha.dn.below B.out hS).at_ (k := j) (by omega)
      obtain ⟨b4, o4, eA4, -, xL⟩ := (ha.lf.below B.out hS).at_ (k := j) (by omega)
      obtain ⟨b5, o5, eA5, -, xM⟩ := (ha.sm.below B.out hS).at_ (k := j) (by omega)
      obtain ⟨b6, o6, eA6, -, xV⟩ := (ha.vl.below B.out hS).at_ (k := j) (by omega)
      rw [eA0] at x0
      rw [eA2] at x2
      rw [eA3] at x3
      rw [eA4] at x4
      rw [eA5] at x5
      rw [eA6] at x6
      have hX0 := hide x0
      have hX2 := hide x2
      have hX3 := hide x3
      have hX4 := hide x4
      have hX5 := hide x5
      have hX6 := hide x6
      -- the kids' cells
      have hkid := hide (fun k (hk : k < (getj p.js j).ks.length) => hT.out.kid j hlt k hk)
      have hdnc := hide (fun (m : Nat) (hm : m < p.js.length) => show wr.cell? ⟨b3, o3 + m, none⟩ = some (.bool (getb p.dn m)) from by
        obtain ⟨b', o', e', -, h⟩ := (ha.dn.below B.out hS).at_ (k := m) (by omega)
        rw [eA3] at e'
        cases e'
        exact h)
      have hvlc := hide (fun (m : Nat) (hm : m < p.js.length) => show wr.cell? ⟨b6, o6 + m, none⟩ = some (.int .i64 (geti p.vl m)) from by
        obtain ⟨b', o', e', -, h⟩ := (ha.vl.below B.out hS).at_ (k := m) (by omega)
        rw [eA6] at e'
        cases e'
        exact h)
      have X' := hide (show Blk wr.drew q 28 #[.slice a.A0 p.js.length a.c0, .slice a.A1 p.dq.length a.c1, .slice a.A2 p.ran.length a.c2, .slice a.A3 p.dn.length a.c3, .slice a.A4 p.lf.length a.c4, .slice a.A5 p.sm.length a.c5, .slice a.A6 p.vl.length a.c6] from X.out)
      have B' := hide (B.out.drew)
      obtain ⟨r, hr⟩ : ∃ r, r = getb p.ran j := ⟨_, rfl⟩
      rw [← hr] at xr
      replace hr := hide hr
      obtain ⟨d, hd⟩ : ∃ d, d = getb p.dn j := ⟨_, rfl⟩
      rw [← hd] at xd
      replace hd := hide hd
      obtain ⟨zL, hzL⟩ : ∃ z, z = geti p.lf j := ⟨_, rfl⟩
      rw [← hzL] at xL
      obtain ⟨zM, hzM⟩ : ∃ z, z = geti p.sm j := ⟨_, rfl⟩
      rw [← hzM] at xM
      obtain ⟨zV, hzV⟩ : ∃ z, z = geti p.vl j := ⟨_, rfl⟩
      rw [← hzV] at xV
      obtain ⟨vj, hvj⟩ : ∃ z, z = (getj p.js j).v := ⟨_, rfl⟩
      rw [← hvj] at xv
      have hacc := hide (show accB p j = (decide (zL = leftD p j) && decide (zM = sumD p j) && decide (zV = if d then worth vj (sumD p j) else 0) && (d == (r && decide (leftD p j = 0)))) from by
        unfold accB; rw [hr.out, hd.out, hzL, hzM, hzV, hvj])
      have hN := hide (show accB p j = false → res = false from fun e => by rw [hres.out, allB_no hlt e])
      have hY := hide (show accB p j = true → ∀ i, i < j + 1 → accB p i = true from fun e i hi => by
        rcases Nat.lt_or_ge i j with h | h
        · exact K.out i h
        · obtain rfl : i = j := by omega
          exact e)
      have hkn := hsz.out j
      have hL0 := hide (show r = false → leftD p j = 0 ∧ sumD p j = 0 from fun e => by
        unfold leftD sumD; rw [← hr.out, e]; exact ⟨rfl, rfl⟩)
      have hL1 := hide (show r = true → leftD p j = (leftN p.dn (getj p.js j).ks : Int) ∧ sumD p j = sumF p.dn p.vl (getj p.js j).ks from fun e => by
        unfold leftD sumD; rw [← hr.out, e]; exact ⟨rfl, rfl⟩)
      replace hkI := hide hkI
      clear X B K hzL hzM hzV hvj eA0 eA2 eA3 eA4 eA5 eA6 e2 e3 e4 e5 e6
      cases r
      · have hc0 := hide (hL0.out rfl)
        obtain ⟨nl, hnl⟩ : ∃ z : Int, z = 0 := ⟨_, rfl⟩
        obtain ⟨sm, hsm⟩ : ∃ z : Int, z = 0 := ⟨_, rfl⟩
        have hc := hide (show leftD p j = nl ∧ sumD p j = sm from by rw [hnl, hsm]; exact hc0.out)
        replace hnl := hide hnl
        replace hsm := hide hsm
        go_wp2_with fail
        go_loop [4, 5, 6] (fun a b c => a = .int .i64 nl ∧ b = .int .i64 sm ∧ c = .int .i64 0) (fun _ _ _ => 0)
        case atStart => exact ⟨by rw [hnl.out], by rw [hsm.out], rfl⟩
        case round =>
          obtain ⟨rfl, rfl, rfl⟩ := hrel
          cases d
          · skip
            obtain ⟨val, hval⟩ : ∃ z : Int, z = 0 := ⟨_, rfl⟩
            replace hval := hide (show (if false = true then worth vj sm else 0) = val from by rw [hval]; rfl)
            have hval2 : val = 0 := hval.out.symm
            subst hval2
            go_upto_region 16 with fail
            refine ssum_cmp q j b2 b3 b4 b5 b6 o2 o3 o4 o5 o6 _ _ _ _ _ _ _ _ _ _ zL zM zV nl sm 0 false false _ x4 x5 x6 x3 x2 xL xM xV xd xr l2 l3 l4 l5 l6 _ (fun _ _ _ _ _ h => h) _ _ _ _ _ _ _ _ _ _ _ _ _ _ _ _ _ _ _ _ _ _ _ _ _ _ _ _ _ _ _ _ _ _ _ _ _ _ _ _ _ _ _ _ _ _ _ _ _ _ _ _ _ _ _ _ _ _ _ _ _ _ _ _ _ _ _ _ _ _ _ _ _ _ _ _ _ _ _ _ _ _ _ _ _ _ _ _ _ _ _ _ _ _ _ _ _ _ _ _ _ _ _ _ _ _ _ _ ?_
            rintro res2 v71 v72 v73 v74 v75 v76 v77 v78 v79 v80 v81 v82 v83 v84 v85 v86 v87 v88 v89 v90 v91 v92 v93 v94 v95 v96 v97 v98 v99 v100 v101 v102 v103 v104 v105 v106 v107 v108 v109 v110 v111 hr2
            have hE := hide (show res2 = !accB p j from by rw [hr2, hacc.out, hc.out.1, hc.out.2, hval.out]; exact cmp_acc zL zM zV nl sm 0 false false)
            clear hr2 x0 x2 x3 x4 x5 x6 xL xM xV xd xr
            cases res2
            · replace hE := hide (show accB p j = true from by have := hE.out; revert this; cases accB p j <;> simp)
              have hw1 := hide (hY.out hE.out)
              obtain ⟨⟨x0, -, -, -, -, -, -⟩, xl⟩ := box7 X'.out
              go_wp2_with fail
              go_roundw
              case rel => exact ⟨j + 1, by omega, by go_num, X', B', hw1⟩
              case measure => simp [intOf]; omega
            · replace hE := hide (hN.out (by have := hE.out; revert this; cases accB p j <;> simp))
              go_wp2_with fail
              go_ret
              exact ⟨ret_bool hE.out.symm, B'.out⟩
          · skip
            obtain ⟨val, hval⟩ : ∃ z, z = worth vj sm := ⟨_, rfl⟩
            have hval2 : wrap64 (vj + wrap64 (2 * sm)) = val := by rw [hval]; rfl
            replace hval := hide (show (if true = true then worth vj sm else 0) = val from by rw [hval]; rfl)
            go_upto_region 16 with fail
            refine ssum_cmp q j b2 b3 b4 b5 b6 o2 o3 o4 o5 o6 _ _ _ _ _ _ _ _ _ _ zL zM zV nl sm _ false true _ x4 x5 x6 x3 x2 xL xM xV xd xr l2 l3 l4 l5 l6 _ (fun _ _ _ _ _ h => h) _ _ _ _ _ _ _ _ _ _ _ _ _ _ _ _ _ _ _ _ _ _ _ _ _ _ _ _ _ _ _ _ _ _ _ _ _ _ _ _ _ _ _ _ _ _ _ _ _ _ _ _ _ _ _ _ _ _ _ _ _ _ _ _ _ _ _ _ _ _ _ _ _ _ _ _ _ _ _ _ _ _ _ _ _ _ _ _ _ _ _ _ _ _ _ _ _ _ _ _ _ _ _ _ _ _ _ _ ?_
            rintro res2 v71 v72 v73 v74 v75 v76 v77 v78 v79 v80 v81 v82 v83 v84 v85 v86 v87 v88 v89 v90 v91 v92 v93 v94 v95 v96 v97 v98 v99 v100 v101 v102 v103 v104 v105 v106 v107 v108 v109 v110 v111 hr2
            have hE := hide (show res2 = !accB p j from by rw [hr2, hacc.out, hc.out.1, hc.out.2, hval.out]; first | exact cmp_acc zL zM zV nl sm val false true | (rw [← hval2]; exact cmp_acc zL zM zV nl sm _ false true))
            clear hr2 x0 x2 x3 x4 x5 x6 xL xM xV xd xr
            cases res2
            · replace hE := hide (show accB p j = true from by have := hE.out; revert this; cases accB p j <;> simp)
              have hw1 := hide (hY.out hE.out)
              obtain ⟨⟨x0, -, -, -, -, -, -⟩, xl⟩ := box7 X'.out
              go_wp2_with fail
              go_roundw
              case rel => exact ⟨j + 1, by omega, by go_num, X', B', hw1⟩
              case measure => simp [intOf]; omega
            · replace hE := hide (hN.out (by have := hE.out; revert this; cases accB p j <;> simp))
              go_wp2_with fail
              go_ret
              exact ⟨ret_bool hE.out.symm, B'.out⟩
      · have hc0 := hide (hL1.out rfl)
        go_wp2_with fail
        go_loop [4, 5, 6] (fun a b c => ∃ k : Nat, k ≤ (getj p.js j).ks.length ∧ a = .int .i64 (leftN p.dn ((getj p.js j).ks.take k) : Nat) ∧ b = .int .i64 (sumF p.dn p.vl ((getj p.js j).ks.take k)) ∧ c = .int .i64 k) (fun _ _ c => (getj p.js j).ks.length - (intOf c).toNat)
        case atStart => exact ⟨0, by omega, rfl, rfl, rfl⟩
        case round =>
          obtain ⟨k, hk, rfl, rfl, rfl⟩ := hrel
          by_cases hlk : k < (getj p.js j).ks.length
          · obtain ⟨b', o', eA, -, h5⟩ := hkI.out.at_ hlk
            subst eA
            have hx := hkid.out k hlk
            obtain ⟨m, hm⟩ : ∃ m : Nat, geti (getj p.js j).ks k = m := ⟨(geti (getj p.js j).ks k).toNat, by omega⟩
            have hS1 := hide (leftN_take (dn := p.dn) hlk)
            have hS2 := hide (sumF_take (dn := p.dn) (vl := p.vl) hlk)
            rw [hm] at h5 hx hS1 hS2
            rw [Int.toNat_natCast] at hS1 hS2
            have hml : m < p.js.length := by omega
            have hle := leftN_le p.dn ((getj p.js j).ks.take k)
            have hle2 : ((getj p.js j).ks.take k).length ≤ 1048576 := by rw [List.length_take]; omega
            obtain ⟨nl, hnl⟩ : ∃ z, z = leftN p.dn ((getj p.js j).ks.take k) := ⟨_, rfl⟩
            obtain ⟨sm, hsm⟩ : ∃ z, z = sumF p.dn p.vl ((getj p.js j).ks.take k) := ⟨_, rfl⟩
            rw [← hnl] at hS1 hle
            rw [← hsm] at hS2
            rw [← hnl, ← hsm]
            have hxd := hdnc.out m hml
            have hxv := hvlc.out m hml
            obtain ⟨zv, hzv⟩ : ∃ z, z = geti p.vl m := ⟨_, rfl⟩
            rw [← hzv] at hxv hS2
            have hlk2 : (k : Int) < (getj p.js j).ks.length := by omega
            have hm3 : (m : Int) < p.dn.length := by have := hlen.out; omega
            have hm6 : (m : Int) < p.vl.length := by have := hlen.out; omega
            clear hm hnl hsm hzv
            cases hb : getb p.dn m
            · rw [hb] at hxd hS1 hS2
              have hnw : IntKind.i64.wrap ((nl : Int) + 1) = ((nl + 1 : Nat) : Int) := by rw [IntKind.wrap_i64]; omega
              clear hb
              go_wp2_with fail
              go_round
              case rel => exact ⟨k + 1, by omega, by rw [hS1.out]; rfl, by rw [hS2.out]; rfl, by go_num⟩
              case measure => simp [intOf]; omega
            · rw [hb] at hxd hS1 hS2
              clear hb
              go_wp2_with fail
              go_round
              case rel => exact ⟨k + 1, by omega, by rw [hS1.out]; rfl, by rw [hS2.out]; rfl, by go_num⟩
              case measure => simp [intOf]; omega
          · obtain rfl : k = (getj p.js j).ks.length := by omega
            rw [List.take_of_length_le (Nat.le_refl _)]
            obtain ⟨nl, hnl⟩ : ∃ z : Int, z = ((leftN p.dn (getj p.js j).ks : Nat) : Int) := ⟨_, rfl⟩
            obtain ⟨sm, hsm⟩ : ∃ z, z = sumF p.dn p.vl (getj p.js j).ks := ⟨_, rfl⟩
            have hc := hide (show leftD p j = nl ∧ sumD p j = sm from by rw [hnl, hsm]; exact hc0.out)
            rw [← hnl, ← hsm]
            clear hnl hsm hc0
            cases d
            · skip
              obtain ⟨val, hval⟩ : ∃ z : Int, z = 0 := ⟨_, rfl⟩
              replace hval := hide (show (if false = true then worth vj sm else 0) = val from by rw [hval]; rfl)
              have hval2 : val = 0 := hval.out.symm
              subst hval2
              go_upto_region 16 with fail
              refine ssum_cmp q j b2 b3 b4 b5 b6 o2 o3 o4 o5 o6 _ _ _ _ _ _ _ _ _ _ zL zM zV nl sm 0 true false _ x4 x5 x6 x3 x2 xL xM xV xd xr l2 l3 l4 l5 l6 _ (fun _ _ _ _ _ h => h) _ _ _ _ _ _ _ _ _ _ _ _ _ _ _ _ _ _ _ _ _ _ _ _ _ _ _ _ _ _ _ _ _ _ _ _ _ _ _ _ _ _ _ _ _ _ _ _ _ _ _ _ _ _ _ _ _ _ _ _ _ _ _ _ _ _ _ _ _ _ _ _ _ _ _ _ _ _ _ _ _ _ _ _ _ _ _ _ _ _ _ _ _ _ _ _ _ _ _ _ _ _ _ _ _ _ _ _ ?_
              rintro res2 v71 v72 v73 v74 v75 v76 v77 v78 v79 v80 v81 v82 v83 v84 v85 v86 v87 v88 v89 v90 v91 v92 v93 v94 v95 v96 v97 v98 v99 v100 v101 v102 v103 v104 v105 v106 v107 v108 v109 v110 v111 hr2
              have hE := hide (show res2 = !accB p j from by rw [hr2, hacc.out, hc.out.1, hc.out.2, hval.out]; exact cmp_acc zL zM zV nl sm 0 true false)
              clear hr2 x0 x2 x3 x4 x5 x6 xL xM xV xd xr
              cases res2
              · replace hE := hide (show accB p j = true from by have := hE.out; revert this; cases accB p j <;> simp)
                have hw1 := hide (hY.out hE.out)
                obtain ⟨⟨x0, -, -, -, -, -, -⟩, xl⟩ := box7 X'.out
                go_wp2_with fail
                go_roundw
                case rel => exact ⟨j + 1, by omega, by go_num, X', B', hw1⟩
                case measure => simp [intOf]; omega
              · replace hE := hide (hN.out (by have := hE.out; revert this; cases accB p j <;> simp))
                go_wp2_with fail
                go_ret
                exact ⟨ret_bool hE.out.symm, B'.out⟩
            · skip
              obtain ⟨val, hval⟩ : ∃ z, z = worth vj sm := ⟨_, rfl⟩
              have hval2 : wrap64 (vj + wrap64 (2 * sm)) = val := by rw [hval]; rfl
              replace hval := hide (show (if true = true then worth vj sm else 0) = val from by rw [hval]; rfl)
              go_upto_region 16 with fail
              refine ssum_cmp q j b2 b3 b4 b5 b6 o2 o3 o4 o5 o6 _ _ _ _ _ _ _ _ _ _ zL zM zV nl sm _ true true _ x4 x5 x6 x3 x2 xL xM xV xd xr l2 l3 l4 l5 l6 _ (fun _ _ _ _ _ h => h) _ _ _ _ _ _ _ _ _ _ _ _ _ _ _ _ _ _ _ _ _ _ _ _ _ _ _ _ _ _ _ _ _ _ _ _ _ _ _ _ _ _ _ _ _ _ _ _ _ _ _ _ _ _ _ _ _ _ _ _ _ _ _ _ _ _ _ _ _ _ _ _ _ _ _ _ _ _ _ _ _ _ _ _ _ _ _ _ _ _ _ _ _ _ _ _ _ _ _ _ _ _ _ _ _ _ _ _ ?_
              rintro res2 v71 v72 v73 v74 v75 v76 v77 v78 v79 v80 v81 v82 v83 v84 v85 v86 v87 v88 v89 v90 v91 v92 v93 v94 v95 v96 v97 v98 v99 v100 v101 v102 v103 v104 v105 v106 v107 v108 v109 v110 v111 hr2
              have hE := hide (show res2 = !accB p j from by rw [hr2, hacc.out, hc.out.1, hc.out.2, hval.out]; first | exact cmp_acc zL zM zV nl sm val true true | (rw [← hval2]; exact cmp_acc zL zM zV nl sm _ true true))
              clear hr2 x0 x2 x3 x4 x5 x6 xL xM xV xd xr
              cases res2
              · replace hE := hide (show accB p j = true from by have := hE.out; revert this; cases accB p j <;> simp)
                have hw1 := hide (hY.out hE.out)
                obtain ⟨⟨x0, -, -, -, -, -, -⟩, xl⟩ := box7 X'.out
                go_wp2_with fail
                go_roundw
                case rel => exact ⟨j + 1, by omega, by go_num, X', B', hw1⟩
                case measure => simp [intOf]; omega
              · replace hE := hide (hN.out (by have := hE.out; revert this; cases accB p j <;> simp))
                go_wp2_with fail
                go_ret
                exact ⟨ret_bool hE.out.symm, B'.out⟩
    · obtain rfl : j = p.js.length := by omega
      have hE := hide (show res = true from by rw [hres.out, allB_yes K.out])
      obtain ⟨⟨x0, -, -, -, -, -, -⟩, xl⟩ := box7 X.out
      clear K
      go_wp2_with fail
      go_ret
      exact ⟨ret_bool hE.out.symm, B.out⟩
end Go.Proofs.Ytfnphnjadknoaaa

namespace Go.Proofs.Ytfnphnjadknoaaa
open Go.RowKit

set_option maxHeartbeats 6400000 in
theorem spoolOk_any (a : PA) (p : PoolD) (S : Nat → Prop) (w : World) (hsz : Hid (∀ k, (getj p.js k).ks.length ≤ 1048576)) (hzQ : Hid (sizeQ p.dq ≤ 1048576)) (hS : ∀ b, S b → b < w.heap.size) (ha : PoolAt w S a p) :
    Calls Try.prog 26 #[.agg (a.cells p)] w fun e w' => e = .returned (.bool (poolB p)) ∧ Below w.heap.size w w' := by
  unfold PA.cells
  obtain ⟨res, hres⟩ : ∃ res, res = poolB p := ⟨_, rfl⟩
  rw [← hres]
  replace hres := hide hres
  have hb0 := below1 w (Obj.cells #[.slice a.A0 p.js.length a.c0, .slice a.A1 p.dq.length a.c1, .slice a.A2 p.ran.length a.c2, .slice a.A3 p.dn.length a.c3, .slice a.A4 p.lf.length a.c4, .slice a.A5 p.sm.length a.c5, .slice a.A6 p.vl.length a.c6] 28)
  have X0 := Blk.new w 28 #[.slice a.A0 p.js.length a.c0, .slice a.A1 p.dq.length a.c1, .slice a.A2 p.ran.length a.c2, .slice a.A3 p.dn.length a.c3, .slice a.A4 p.lf.length a.c4, .slice a.A5 p.sm.length a.c5, .slice a.A6 p.vl.length a.c6]
  obtain ⟨w0, hw0⟩ : ∃ w0, w0 = w.alloc (Obj.cells #[.slice a.A0 p.js.length a.c0, .slice a.A1 p.dq.length a.c1, .slice a.A2 p.ran.length a.c2, .slice a.A3 p.dn.length a.c3, .slice a.A4 p.lf.length a.c4, .slice a.A5 p.sm.length a.c5, .slice a.A6 p.vl.length a.c6] 28) := ⟨_, rfl⟩
  rw [← hw0] at hb0 X0
  have ha0 := ha.below hb0 hS
  have hS0 : ∀ b, S b → b < w0.heap.size := fun b h => Nat.lt_of_lt_of_le (hS b h) hb0.size
  have kJ := hide (sjobsOk_any a.A0 p.js a.c0 S w0 hsz.out hS0 ha0.jobs)
  obtain ⟨⟨x0, -, -, -, -, -, -⟩, xl⟩ := box7 X0
  obtain ⟨q, hq⟩ : ∃ q, q = w.heap.size := ⟨_, rfl⟩
  rw [← hq] at X0 x0 xl
  replace X0 := hide X0
  replace ha0 := hide ha0
  replace hb0 := hide hb0
  clear ha
  go_enter Try.func26, Try.ntmps26
  go_upto_region 1 with fail
  rw [← hw0, ← hq]
  clear hw0
  replace hq := hide hq
  cases hj : jobsB p.js
  · rw [hj] at kJ
    have hE := hide (show res = false from by rw [hres.out]; unfold poolB; rw [hj]; rfl)
    go_wp2_with (go_at_call 34; refine kJ.out.mono ?_; rintro e w1 ⟨rfl, hb⟩)
    go_ret
    exact ⟨ret_bool hE.out.symm, below_next hb0.out hb hb0.out.size⟩
  · rw [hj] at kJ
    have hT := hide (jobsB_tree hj)
    have kL := hide (fun w1 (hb : Below w0.heap.size w0 w1) (hlr : p.ran.length = p.js.length) => srows_any a p S w1 hT hlr hsz.out hzQ.out (fun b h => Nat.lt_of_lt_of_le (hS0 b h) hb.size) (ha0.out.below hb hS0))
    have kM := hide (fun w1 (hb : Below w0.heap.size w0 w1) (hl : Hid (p.ran.length = p.js.length ∧ p.dn.length = p.js.length ∧ p.lf.length = p.js.length ∧ p.sm.length = p.js.length ∧ p.vl.length = p.js.length)) => ssums_any a p S w1 hT hl hsz (fun b h => Nat.lt_of_lt_of_le (hS0 b h) hb.size) (ha0.out.below hb hS0))
    by_cases hd1 : (p.dq.length : Int) < 1
    · have hW : workB p.dq.length = false := by unfold workB; first | rw [decide_eq_false (by omega), Bool.false_and] | rw [decide_eq_false (by omega : ¬ ((p.dq.length : Int) ≤ 4)), Bool.and_false]
      have hE := hide (show res = false from by rw [hres.out]; unfold poolB; rw [hW]; simp)
      clear hW
      go_wp2_with (go_at_call 34; refine kJ.out.mono ?_; rintro e w1 ⟨rfl, hb⟩; obtain ⟨⟨y0, y1, y2, y3, y4, y5, y6⟩, yl⟩ := box7 (X0.out.below hb xl))
      go_ret
      exact ⟨ret_bool hE.out.symm, below_next hb0.out hb hb0.out.size⟩
    · have hWhd1 := hide hd1
      by_cases hd2 : (p.dq.length : Int) > 4
      · have hW : workB p.dq.length = false := by unfold workB; first | rw [decide_eq_false (by omega), Bool.false_and] | rw [decide_eq_false (by omega : ¬ ((p.dq.length : Int) ≤ 4)), Bool.and_false]
        have hE := hide (show res = false from by rw [hres.out]; unfold poolB; rw [hW]; simp)
        clear hW
        go_wp2_with (go_at_call 34; refine kJ.out.mono ?_; rintro e w1 ⟨rfl, hb⟩; obtain ⟨⟨y0, y1, y2, y3, y4, y5, y6⟩, yl⟩ := box7 (X0.out.below hb xl))
        go_ret
        exact ⟨ret_bool hE.out.symm, below_next hb0.out hb hb0.out.size⟩
      · have hWhd2 := hide hd2
        have hW : workB p.dq.length = true := by unfold workB; rw [decide_eq_true (by omega), decide_eq_true (by omega)]; rfl
        by_cases c0 : p.ran.length = p.js.length
        · have n0 := bneL c0
          by_cases c1 : p.dn.length = p.js.length
          · have n1 := bneL c1
            by_cases c2 : p.lf.length = p.js.length
            · have n2 := bneL c2
              by_cases c3 : p.sm.length = p.js.length
              · have n3 := bneL c3
                by_cases c4 : p.vl.length = p.js.length
                · have n4 := bneL c4
                  have hlr := c0
                  have hL := lensB_yes c0 c1 c2 c3 c4
                  have hll := hide (⟨c0, c1, c2, c3, c4⟩ : p.ran.length = p.js.length ∧ p.dn.length = p.js.length ∧ p.lf.length = p.js.length ∧ p.sm.length = p.js.length ∧ p.vl.length = p.js.length)
                  clear c0 c1 c2 c3 c4
                  have hE := hide (show res = (innB p && allB (rowB p) p.js.length && allB (accB p) p.js.length) from by rw [hres.out]; unfold poolB; rw [hj, hW, hL]; simp [Bool.and_assoc])
                  replace hlr := hide hlr
                  cases hr : innB p && allB (rowB p) p.js.length
                  · rw [hr] at kL hE
                    go_wp2_with (first
                      | (go_at_call 34; refine kJ.out.mono ?_; rintro e w1 ⟨rfl, hb⟩; obtain ⟨⟨y0, y1, y2, y3, y4, y5, y6⟩, yl⟩ := box7 (X0.out.below hb xl))
                      | (go_at_call 68; refine (kL.out w1 hb hlr.out).mono ?_; rintro e w2 ⟨rfl, hb2⟩))
                    go_ret
                    exact ⟨ret_bool (by rw [hE.out, Bool.false_and]), below_next hb0.out (below_next hb hb2 hb.size) hb0.out.size⟩
                  · rw [hr] at kL hE
                    go_wp2_with (first
                      | (go_at_call 34; refine kJ.out.mono ?_; rintro e w1 ⟨rfl, hb⟩; obtain ⟨⟨y0, y1, y2, y3, y4, y5, y6⟩, yl⟩ := box7 (X0.out.below hb xl))
                      | (go_at_call 68; refine (kL.out w1 hb hlr.out).mono ?_; rintro e w2 ⟨rfl, hb2⟩; replace hb2 := below_next hb hb2 hb.size; obtain ⟨⟨y0, y1, y2, y3, y4, y5, y6⟩, yl⟩ := box7 (X0.out.below hb2 xl))
                      | (go_at_call 69; refine (kM.out w2 hb2 hll).mono ?_; rintro e w3 ⟨rfl, hb3⟩))
                    go_ret
                    exact ⟨ret_bool (by rw [hE.out, Bool.true_and]), below_next hb0.out (below_next hb2 hb3 hb2.size) hb0.out.size⟩
                · have n4 := bneL' c4
                  have hL := lensB_no (p := p) (.inr (.inr (.inr (.inr (c4)))))
                  have hE := hide (show res = false from by rw [hres.out]; unfold poolB; rw [hL]; simp)
                  clear hL c0 c1 c2 c3 c4
                  go_wp2_with (go_at_call 34; refine kJ.out.mono ?_; rintro e w1 ⟨rfl, hb⟩; obtain ⟨⟨y0, y1, y2, y3, y4, y5, y6⟩, yl⟩ := box7 (X0.out.below hb xl))
                  go_ret
                  exact ⟨ret_bool hE.out.symm, below_next hb0.out hb hb0.out.size⟩
              · have n3 := bneL' c3
                have hL := lensB_no (p := p) (.inr (.inr (.inr (.inl c3))))
                have hE := hide (show res = false from by rw [hres.out]; unfold poolB; rw [hL]; simp)
                clear hL c0 c1 c2 c3
                go_wp2_with (go_at_call 34; refine kJ.out.mono ?_; rintro e w1 ⟨rfl, hb⟩; obtain ⟨⟨y0, y1, y2, y3, y4, y5, y6⟩, yl⟩ := box7 (X0.out.below hb xl))
                go_ret
                exact ⟨ret_bool hE.out.symm, below_next hb0.out hb hb0.out.size⟩
            · have n2 := bneL' c2
              have hL := lensB_no (p := p) (.inr (.inr (.inl c2)))
              have hE := hide (show res = false from by rw [hres.out]; unfold poolB; rw [hL]; simp)
              clear hL c0 c1 c2
              go_wp2_with (go_at_call 34; refine kJ.out.mono ?_; rintro e w1 ⟨rfl, hb⟩; obtain ⟨⟨y0, y1, y2, y3, y4, y5, y6⟩, yl⟩ := box7 (X0.out.below hb xl))
              go_ret
              exact ⟨ret_bool hE.out.symm, below_next hb0.out hb hb0.out.size⟩
          · have n1 := bneL' c1
            have hL := lensB_no (p := p) (.inr (.inl c1))
            have hE := hide (show res = false from by rw [hres.out]; unfold poolB; rw [hL]; simp)
            clear hL c0 c1
            go_wp2_with (go_at_call 34; refine kJ.out.mono ?_; rintro e w1 ⟨rfl, hb⟩; obtain ⟨⟨y0, y1, y2, y3, y4, y5, y6⟩, yl⟩ := box7 (X0.out.below hb xl))
            go_ret
            exact ⟨ret_bool hE.out.symm, below_next hb0.out hb hb0.out.size⟩
        · have n0 := bneL' c0
          have hL := lensB_no (p := p) (.inl c0)
          have hE := hide (show res = false from by rw [hres.out]; unfold poolB; rw [hL]; simp)
          clear hL c0
          go_wp2_with (go_at_call 34; refine kJ.out.mono ?_; rintro e w1 ⟨rfl, hb⟩; obtain ⟨⟨y0, y1, y2, y3, y4, y5, y6⟩, yl⟩ := box7 (X0.out.below hb xl))
          go_ret
          exact ⟨ret_bool hE.out.symm, below_next hb0.out hb hb0.out.size⟩
end Go.Proofs.Ytfnphnjadknoaaa
