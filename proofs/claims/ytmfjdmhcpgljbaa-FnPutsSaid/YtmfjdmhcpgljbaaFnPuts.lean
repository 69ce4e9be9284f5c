/- FnPuts: for every code, what is put is read, and stands last; where there is no room nothing is put. No condition. -/
import Derived.Test.YtmfjdmhcpgljbaaDBuf
import Derived.Test.YtmfjdmhcpgljbaaBufs
namespace Go.Proofs.Ytmfjdmhcpgljbaa
open Go.RowKit Go.ChangeShapes Go.WideShapes Go.ChangeAt

theorem geti_snoc2 (zs : List Int) (n : Nat) (x v : Int) (hz : zs.length = n * 2) : geti (zs ++ [x, v]) (n * 2) = x ∧ geti (zs ++ [x, v]) (n * 2 + 1) = v := by
  constructor
  · unfold geti; rw [List.getD_eq_getElem?_getD, List.getElem?_append_right (by omega), hz]; simp
  · unfold geti; rw [List.getD_eq_getElem?_getD, List.getElem?_append_right (by omega), hz]; simp

set_option maxRecDepth 100000 in
set_option maxHeartbeats 12800000 in
theorem fnPuts_walk (A : Option Addr) (n c : Nat) (w : World) (hn : n ≤ c) (ha : BytesAt w (Old w.heap.size) A n) :
    Calls Try.prog 6 #[.slice A n c] w fun e w' => e = .returned (.bool true) ∧ Below w.heap.size w w' := by
  go_enter Try.func6, Try.ntmps6
  go_wp2_with fail
  refine (drawBufPut_any A n c _ hn ha).mono ?_
  rintro e w1 ⟨A1, n1, c1, zs, x, v, rfl, ⟨hz, hn7, hnc⟩, hi, hx, hv, hb0⟩
  replace hb0 := hide hb0
  by_cases h4 : 4 ≤ n1
  · have kP := fun A c w => bufPut_no A n1 c x v w h4
    have kS := fun A c w => sbufPut_no A n1 c x v w h4
    replace kP := hide kP
    replace kS := hide kS
    have S := hide hi
    have HB := hide (Below.refl w1.heap.size w1)
    replace hz := hide hz
    clear hi
    go_wp2_with fail
    obtain ⟨w2, hw2⟩ : ∃ wx, wx = w1.alloc (Obj.cells #[Value.slice A1 n1 c1] 54) := ⟨_, rfl⟩
    have hb : Below w1.heap.size w1 w2 := by rw [hw2]; exact below1 _ _
    have hszw2 : w2.heap.size = w1.heap.size + 1 := by rw [hw2, World.size_alloc]
    have NBb := hide (show Blk w2 (w1.heap.size) 54 #[Value.slice A1 n1 c1] from by rw [hw2]; exact Blk.new _ _ _)
    have hBz := HB.out.size
    replace S := hide (S.out.nextI hb hBz)
    replace HB := hide (below_next HB.out hb hBz)
    clear hBz
    have Bb := hide NBb.out
    clear NBb
    clear hb
    rw [← hw2]
    clear hw2
    have hzw2 := Nat.le_of_eq hszw2.symm
    clear hszw2
    obtain ⟨⟨cBb, -⟩, lBb⟩ := box1 Bb.out
    refine (kP.out _ _ _).mono ?_
    rintro e w3 ⟨A2, c2, rfl, hc2, hr, hb⟩
    clear cBb lBb
    have hzw3 := hb.size
    have hBz := HB.out.size
    replace Bb := hide (Bb.out.below hb Bb.out.lt)
    replace S := hide (S.out.nextI hb hBz)
    replace HB := hide (below_next HB.out hb hBz)
    clear hBz
    clear hb
    have R2 := hide (RvI.of hr)
    clear hr
    obtain ⟨⟨cBb, -⟩, lBb⟩ := box1 Bb.out
    go_wp2_with fail
    clear cBb lBb
    obtain ⟨w4, hw4⟩ : ∃ wx, wx = w3.alloc (Obj.cells #[Value.slice A2 0 c2] 54) := ⟨_, rfl⟩
    have hb : Below w3.heap.size w3 w4 := by rw [hw4]; exact below1 _ _
    have hszw4 : w4.heap.size = w3.heap.size + 1 := by rw [hw4, World.size_alloc]
    have NB2 := hide (show Blk w4 (w3.heap.size) 54 #[Value.slice A2 0 c2] from by rw [hw4]; exact Blk.new _ _ _)
    have hBz := HB.out.size
    replace Bb := hide (Bb.out.below hb Bb.out.lt)
    replace R2 := hide (R2.out.next hb)
    replace S := hide (S.out.nextI hb hBz)
    replace HB := hide (below_next HB.out hb hBz)
    clear hBz
    have B2 := hide NB2.out
    clear NB2
    clear hb
    rw [← hw4]
    clear hw4
    have hzw4 := Nat.le_of_eq hszw4.symm
    clear hszw4
    obtain ⟨⟨cBb, -⟩, lBb⟩ := box1 Bb.out
    obtain ⟨⟨cB2, -⟩, lB2⟩ := box1 B2.out
    refine (kS.out _ _ _).mono ?_
    rintro e w5 ⟨A3, c3, rfl, -, hr, hb⟩
    clear cBb lBb cB2 lB2
    have hzw5 := hb.size
    have hBz := HB.out.size
    replace Bb := hide (Bb.out.below hb Bb.out.lt)
    replace B2 := hide (B2.out.below hb B2.out.lt)
    replace R2 := hide (R2.out.next hb)
    replace S := hide (S.out.nextI hb hBz)
    replace HB := hide (below_next HB.out hb hBz)
    clear hBz
    clear hb hr
    obtain ⟨⟨cBb, -⟩, lBb⟩ := box1 Bb.out
    obtain ⟨⟨cB2, -⟩, lB2⟩ := box1 B2.out
    go_wp2_with fail
    clear cBb lBb cB2 lB2
    obtain ⟨w6, hw6⟩ : ∃ wx, wx = w5.alloc (Obj.cells #[Value.slice A3 0 c3] 54) := ⟨_, rfl⟩
    have hb : Below w5.heap.size w5 w6 := by rw [hw6]; exact below1 _ _
    have hszw6 : w6.heap.size = w5.heap.size + 1 := by rw [hw6, World.size_alloc]
    have NB3 := hide (show Blk w6 (w5.heap.size) 54 #[Value.slice A3 0 c3] from by rw [hw6]; exact Blk.new _ _ _)
    have hBz := HB.out.size
    replace Bb := hide (Bb.out.below hb Bb.out.lt)
    replace B2 := hide (B2.out.below hb B2.out.lt)
    replace R2 := hide (R2.out.next hb)
    replace S := hide (S.out.nextI hb hBz)
    replace HB := hide (below_next HB.out hb hBz)
    clear hBz
    have B3 := hide NB3.out
    clear NB3
    clear hb
    rw [← hw6]
    clear hw6
    have hzw6 := Nat.le_of_eq hszw6.symm
    clear hszw6
    obtain ⟨⟨cBb, -⟩, lBb⟩ := box1 Bb.out
    obtain ⟨⟨cB2, -⟩, lB2⟩ := box1 B2.out
    obtain ⟨⟨cB3, -⟩, lB3⟩ := box1 B3.out
    refine (bufs_any _).mono ?_
    rintro e w7 ⟨rfl, hb⟩
    clear cBb lBb cB2 lB2 cB3 lB3
    have hzw7 := hb.size
    have hBz := HB.out.size
    replace Bb := hide (Bb.out.below hb Bb.out.lt)
    replace B2 := hide (B2.out.below hb B2.out.lt)
    replace B3 := hide (B3.out.below hb B3.out.lt)
    replace R2 := hide (R2.out.next hb)
    replace S := hide (S.out.nextI hb hBz)
    replace HB := hide (below_next HB.out hb hBz)
    clear hBz
    clear hb
    go_wp2_with fail
    go_ret
    exact ⟨rfl, below_then hb0.out HB.out⟩
  · have kP := fun A c w hi => bufPut_yes A zs n1 c x v w hz (by omega) hi
    have kS := fun A c w hi => sbufPut_yes A zs n1 c x v w hz (by omega) hi
    replace kP := hide kP
    replace kS := hide kS
    have S := hide hi
    have HB := hide (Below.refl w1.heap.size w1)
    replace hz := hide hz
    clear hi
    go_wp2_with fail
    obtain ⟨w2, hw2⟩ : ∃ wx, wx = w1.alloc (Obj.cells #[Value.slice A1 n1 c1] 54) := ⟨_, rfl⟩
    have hb : Below w1.heap.size w1 w2 := by rw [hw2]; exact below1 _ _
    have hszw2 : w2.heap.size = w1.heap.size + 1 := by rw [hw2, World.size_alloc]
    have NBb := hide (show Blk w2 (w1.heap.size) 54 #[Value.slice A1 n1 c1] from by rw [hw2]; exact Blk.new _ _ _)
    have hBz := HB.out.size
    replace S := hide (S.out.nextI hb hBz)
    replace HB := hide (below_next HB.out hb hBz)
    clear hBz
    have Bb := hide NBb.out
    clear NBb
    clear hb
    rw [← hw2]
    clear hw2
    have hzw2 := Nat.le_of_eq hszw2.symm
    clear hszw2
    obtain ⟨⟨cBb, -⟩, lBb⟩ := box1 Bb.out
    refine (kP.out _ _ _ (S.out.more (old_lts HB.out.size))).mono ?_
    rintro e w3 ⟨A2, c2, rfl, hc2, hr, hb⟩
    clear cBb lBb
    have hzw3 := hb.size
    have hBz := HB.out.size
    replace Bb := hide (Bb.out.below hb Bb.out.lt)
    replace S := hide (S.out.nextI hb hBz)
    replace HB := hide (below_next HB.out hb hBz)
    clear hBz
    clear hb
    have R2 := hide (RvI.of hr)
    clear hr
    replace hc2 := hide hc2
    obtain ⟨⟨cBb, -⟩, lBb⟩ := box1 Bb.out
    go_wp2_with fail
    clear cBb lBb
    obtain ⟨w4, hw4⟩ : ∃ wx, wx = w3.alloc (Obj.cells #[Value.slice A2 (n1 + 1) c2] 54) := ⟨_, rfl⟩
    have hb : Below w3.heap.size w3 w4 := by rw [hw4]; exact below1 _ _
    have hszw4 : w4.heap.size = w3.heap.size + 1 := by rw [hw4, World.size_alloc]
    have NB2 := hide (show Blk w4 (w3.heap.size) 54 #[Value.slice A2 (n1 + 1) c2] from by rw [hw4]; exact Blk.new _ _ _)
    have hBz := HB.out.size
    replace Bb := hide (Bb.out.below hb Bb.out.lt)
    replace R2 := hide (R2.out.next hb)
    replace S := hide (S.out.nextI hb hBz)
    replace HB := hide (below_next HB.out hb hBz)
    clear hBz
    have B2 := hide NB2.out
    clear NB2
    clear hb
    rw [← hw4]
    clear hw4
    have hzw4 := Nat.le_of_eq hszw4.symm
    clear hszw4
    obtain ⟨⟨cBb, -⟩, lBb⟩ := box1 Bb.out
    obtain ⟨⟨cB2, -⟩, lB2⟩ := box1 B2.out
    refine (kS.out _ _ _ (S.out.more (old_lts HB.out.size))).mono ?_
    rintro e w5 ⟨A3, c3, rfl, -, hr, hb⟩
    clear cBb lBb cB2 lB2
    have hzw5 := hb.size
    have hBz := HB.out.size
    replace Bb := hide (Bb.out.below hb Bb.out.lt)
    replace B2 := hide (B2.out.below hb B2.out.lt)
    replace R2 := hide (R2.out.next hb)
    replace S := hide (S.out.nextI hb hBz)
    replace HB := hide (below_next HB.out hb hBz)
    clear hBz
    clear hb hr
    obtain ⟨e1, e2⟩ := geti_snoc2 zs n1 x v hz.out
    have hrd : readTo (zs ++ [x, v]) [] x (n1 + 1) = v := by rw [readTo, if_pos e1, e2]
    have hsr := (R2.out.src (by simp; have := hz.out; omega) rfl)
    have hzl : (zs ++ [x, v]).length = (n1 + 1) * 2 := by simp; have := hz.out; omega
    obtain ⟨b, off, rfl, hbB, d0, d1⟩ := hsr.two hzl (show n1 < n1 + 1 by omega)
    rw [e1] at d0
    rw [e2] at d1
    have kR := fun w h => bufRead_any (some ⟨b, off, none⟩) none (zs ++ [x, v]) [] (n1 + 1) c2 0 0 x w hzl (by omega) rfl (by omega) h (IntsAt.nilrow rfl)
    rw [hrd] at kR
    replace kR := hide kR
    have hbB2 : b < w5.heap.size := hbB
    clear e1 e2 hrd hsr hzl hbB
    obtain ⟨⟨cBb, -⟩, lBb⟩ := box1 Bb.out
    obtain ⟨⟨cB2, -⟩, lB2⟩ := box1 B2.out
    go_wp2_with fail
    clear cBb lBb cB2 lB2
    obtain ⟨w6, hw6⟩ : ∃ wx, wx = w5.alloc (Obj.cells #[Value.slice A3 (n1 + 1) c3] 54) := ⟨_, rfl⟩
    have hb : Below w5.heap.size w5 w6 := by rw [hw6]; exact below1 _ _
    have hszw6 : w6.heap.size = w5.heap.size + 1 := by rw [hw6, World.size_alloc]
    have NB3 := hide (show Blk w6 (w5.heap.size) 54 #[Value.slice A3 (n1 + 1) c3] from by rw [hw6]; exact Blk.new _ _ _)
    have hBz := HB.out.size
    replace Bb := hide (Bb.out.below hb Bb.out.lt)
    replace B2 := hide (B2.out.below hb B2.out.lt)
    replace R2 := hide (R2.out.next hb)
    replace S := hide (S.out.nextI hb hBz)
    replace HB := hide (below_next HB.out hb hBz)
    clear hBz
    have B3 := hide NB3.out
    clear NB3
    clear hb
    rw [← hw6]
    clear hw6
    have hzw6 := Nat.le_of_eq hszw6.symm
    clear hszw6
    obtain ⟨⟨cBb, -⟩, lBb⟩ := box1 Bb.out
    obtain ⟨⟨cB2, -⟩, lB2⟩ := box1 B2.out
    obtain ⟨⟨cB3, -⟩, lB3⟩ := box1 B3.out
    refine (kR.out _ (R2.out.src (by simp; have := hz.out; omega) rfl)).mono ?_
    rintro e w7 ⟨rfl, hb⟩
    clear cBb lBb cB2 lB2 cB3 lB3
    have hzw7 := hb.size
    have hBz := HB.out.size
    replace Bb := hide (Bb.out.below hb Bb.out.lt)
    replace B2 := hide (B2.out.below hb B2.out.lt)
    replace B3 := hide (B3.out.below hb B3.out.lt)
    replace R2 := hide (R2.out.next hb)
    replace S := hide (S.out.nextI hb hBz)
    replace HB := hide (below_next HB.out hb hBz)
    clear hBz
    clear hb
    obtain ⟨⟨cBb, -⟩, lBb⟩ := box1 Bb.out
    obtain ⟨⟨cB2, -⟩, lB2⟩ := box1 B2.out
    obtain ⟨⟨cB3, -⟩, lB3⟩ := box1 B3.out
    go_wp2_with fail
    refine (bufs_any _).mono ?_
    rintro e w8 ⟨rfl, hb⟩
    clear cBb lBb cB2 lB2 cB3 lB3
    have hzw8 := hb.size
    have hBz := HB.out.size
    replace Bb := hide (Bb.out.below hb Bb.out.lt)
    replace B2 := hide (B2.out.below hb B2.out.lt)
    replace B3 := hide (B3.out.below hb B3.out.lt)
    replace R2 := hide (R2.out.next hb)
    replace S := hide (S.out.nextI hb hBz)
    replace HB := hide (below_next HB.out hb hBz)
    clear hBz
    clear hb
    go_wp2_with fail
    go_ret
    exact ⟨rfl, below_then hb0.out HB.out⟩

-- LIFT (gen_law.py)
theorem laidOut_fnPuts : laidOutB Try.prog = true := by kernel_rfl
theorem own_fnPuts : ownKnob Try.prog.godebug = none := by kernel_rfl

set_option maxRecDepth 100000 in
theorem fnPuts_lifted (os : Os) (started : os.Started) (H : Type) (enc : TypeId × Value → H) :
    ReturnsInHanded {} Try.checked os 6 .any (Rows.fnPutsSpec.pre6 enc Try.prog Try.f6 [] false) (Rows.fnPutsSpec.post enc Try.prog Try.f6 false true false false) := by
  refine returnsInHanded_of_change (C := Try.checked) own_fnPuts started (by kernel_rfl) Try.func6
    (ChangeSpec.witness6 (enc := enc) (C := Try.checked) (os := os) false ⟨#[], #[.slice none 0 0], []⟩ 8 (by kernel_rfl) (by kernel_rfl) (by kernel_rfl) (by kernel_rfl)) ?_
  intro W base args ds gs before hval hW _ _
  have hW' := hW
  obtain ⟨p, q, hA0, hV, rfl, hfz, hnd⟩ := hW
  have hA : DataW.TrodAll enc Try.prog W 0 (fun _ => true) true Try.f6.params.toList args.toList ds p := hA0
  rw [Try.params6] at hA hval
  obtain ⟨v0, d0, rfl, rfl, h0⟩ := trodAll_one hA
  obtain ⟨A, n, c, rfl, hn, ha⟩ := open_code (hval 0 _ v0 rfl rfl) h0
  refine (fnPuts_walk A n c W hn ha).mono fun e W' ⟨he, hb⟩ => ⟨_, he, ?_⟩
  refine law_post laidOut_fnPuts (fun t ht => ?_) rfl (by kernel_rfl) Try.underlying4 (fun ds hds => ?_) hW' hb
  · rw [Try.params6] at ht
    simp at ht
    subst ht
    exact ⟨by kernel_rfl, of_decide_eq_true (by kernel_rfl)⟩
  · rw [Try.params6] at hds
    match ds, hds with
    | [_], _ => exact ⟨rfl, rfl, rfl⟩

theorem fnPuts_holds : Rows.FnPutsSaid :=
  OpenClaim.holds_of_wide 6 Try.f6 rfl rfl rfl rfl rfl rfl rfl ⟨rfl, rfl, rfl, rfl, rfl⟩ rfl rfl rfl rfl rfl (by kernel_rfl) Try.func6 (by kernel_rfl)
    (of_decide_eq_true (by kernel_rfl)) (by unfold Func.isWrapper; first | (rw [if_pos (by decide +kernel)]; kernel_rfl) | (rw [if_neg (by decide +kernel)]; exact ⟨rfl, rfl⟩))
    (fun os started H enc _ => fnPuts_lifted os started H enc)
#print axioms fnPuts_holds
end Go.Proofs.Ytmfjdmhcpgljbaa
