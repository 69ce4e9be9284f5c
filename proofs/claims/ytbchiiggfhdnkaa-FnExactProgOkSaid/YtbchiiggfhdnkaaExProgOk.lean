/- FnExactProgOk: for every program in memory impl.ProgOk answers as the model does and leaves it as it was. No condition. -/
import Derived.Test.YtbchiiggfhdnkaaSProgOk
import Derived.Test.YtbchiiggfhdnkaaToProg
import Derived.Test.YtbchiiggfhdnkaaSz
import Derived.Test.YtbchiiggfhdnkaaEq
import Derived.Test.YtbchiiggfhdnkaaOpenProg
import Derived.Test.YtbchiiggfhdnkaaLift
import Derived.Deep.RegionWith
namespace Go.Proofs.Ytbchiiggfhdnkaa
open Go.RowKit Go.ChangeShapes Go.WideShapes Go.ChangeAt

theorem exProgOk_big (v : Value) (p : ProgD) (w : World) (hp : ProgAt w (Old w.heap.size) v p) (hbig : (1048576 : Int) < progSize p) :
    Calls Try.prog 10 #[v] w fun e w' => e = .returned (.bool true) ∧ Below w.heap.size w w' := by
  have hp0 := hp
  obtain ⟨A, c, A', c', rfl, hcc, hi, ht⟩ := hp
  have hb0 := below1 w (Obj.cells #[Value.slice A p.init.length c, Value.slice A' p.ts.length c'] 71)
  have kc := fun w S hS hp => szProg_any p (.agg #[.slice A p.init.length c, .slice A' p.ts.length c']) S 1048576 w (by omega) (by omega) hS hp
  simp only [szR_neg hbig] at kc
  have KC := hide kc
  clear kc hbig
  go_enter Try.func10, Try.ntmps10
  go_wp2_with fail
  refine (KC.out _ (Old w.heap.size) (fun b h => Nat.lt_of_lt_of_le h hb0.size) (hp0.below hb0 (fun b h => h))).mono ?_
  rintro e w1 ⟨rfl, hb1⟩
  go_wp2_with fail
  go_ret
  exact ⟨rfl, below_then hb0 hb1⟩

set_option maxRecDepth 100000 in
set_option maxHeartbeats 3200000 in
theorem exProgOk_small (v : Value) (p : ProgD) (w : World) (hp : ProgAt w (Old w.heap.size) v p) (hsm : ¬ (1048576 : Int) < progSize p) :
    Calls Try.prog 10 #[v] w fun e w' => e = .returned (.bool true) ∧ Below w.heap.size w w' := by
  have hp0 := hp
  obtain ⟨A, c, A', c', rfl, hcc, hi, ht⟩ := hp
  have hb0 := below1 w (Obj.cells #[Value.slice A p.init.length c, Value.slice A' p.ts.length c'] 71)
  have kc := fun w S hS hp => szProg_any p (.agg #[.slice A p.init.length c, .slice A' p.ts.length c']) S 1048576 w (by omega) (by omega) hS hp
  simp only [szR_pos hsm] at kc
  have hpos : 0 ≤ (1048576 : Int) - progSize p := by omega
  have hsz : progSize p ≤ 1048576 := by omega
  have KC := hide kc
  clear kc hsm
  have K1 := hide (fun v S w hS hp => sprogOk_any v p S w hS hp)
  have K2 := hide (fun v S w hS hp => progOk_any v p S w hS hp)
  generalize progB p = res at K1 K2
  cases res
  all_goals
    go_enter Try.func10, Try.ntmps10
    go_wp2_with fail
    refine (KC.out _ (Old w.heap.size) (fun b h => Nat.lt_of_lt_of_le h hb0.size) (hp0.below hb0 (fun b h => h))).mono ?_
    rintro e w1 ⟨rfl, hb1⟩
    have hB1 := below_then hb0 hb1
    have kb := (Blk.new w 71 #[Value.slice A p.init.length c, Value.slice A' p.ts.length c']).below hb1 (by simp)
    have e0 := kb.cell 0
    have e1 := kb.cell 1
    simp only [List.getElem?_toArray, List.getElem?_cons_zero, List.getElem?_cons_succ] at e0 e1
    go_wp2_with fail
    refine (toProg_any _ p (Old w.heap.size) w1 hsz (fun b h => Nat.lt_of_lt_of_le h hB1.size) (hp0.below hB1 (fun b h => h))).mono ?_
    rintro e w2 ⟨v2, rfl, hp2, hb2⟩
    have hB2 := below_then hB1 hb2
    go_wp2_with fail
    refine (K1.out v2 (New w1.heap.size w2.heap.size) w2 (fun b h => h.2) hp2).mono ?_
    rintro e w3 ⟨rfl, hb3⟩
    have hB3 := below_then hB2 hb3
    have kb3 := ((kb.below hb2 (size_step hb1)).below hb3 (Nat.lt_of_lt_of_le (size_step hb1) hb2.size))
    clear e0 e1
    have e0 := kb3.cell 0
    have e1 := kb3.cell 1
    simp only [List.getElem?_toArray, List.getElem?_cons_zero, List.getElem?_cons_succ] at e0 e1
    go_wp2_with fail
    refine (toProg_any _ p (Old w.heap.size) w3 hsz (fun b h => Nat.lt_of_lt_of_le h hB3.size) (hp0.below hB3 (fun b h => h))).mono ?_
    rintro e w4 ⟨v4, rfl, hp4, hb4⟩
    have hB4 := below_then hB3 hb4
    obtain ⟨A4, c4, A4', c4', rfl, hcc4, hi4, ht4⟩ := hp4
    have hp4 : ProgAt w4 (New w3.heap.size w4.heap.size) (.agg #[.slice A4 p.init.length c4, .slice A4' p.ts.length c4']) p := ⟨A4, c4, A4', c4', rfl, hcc4, hi4, ht4⟩
    go_wp2_with fail
    have hb5 := below1 w4 (Obj.cells #[Value.slice A4 p.init.length c4, Value.slice A4' p.ts.length c4'] 36)
    refine (K2.out _ (New w3.heap.size w4.heap.size) _ (fun b h => Nat.lt_of_lt_of_le h.2 hb5.size) (hp4.below hb5 (fun b h => h.2))).mono ?_
    rintro e w6 ⟨rfl, hb6⟩
    have hB5 := below_then hB4 hb5
    have hB6 := below_then hB5 hb6
    go_wp2_with fail
    have kb6 := (((kb3.below hb4 (Nat.lt_of_lt_of_le (Nat.lt_of_lt_of_le (size_step hb1) hb2.size) hb3.size)).alloc _).below hb6 (by have := (size_step hb1); have := hb2.size; have := hb3.size; have := hb4.size; simp; omega))
    have kx6 := (Blk.new w4 36 #[Value.slice A4 p.init.length c4, Value.slice A4' p.ts.length c4']).below hb6 (by simp)
    have g0 := kb6.cell 0
    have g1 := kb6.cell 1
    have f0 := kx6.cell 0
    have f1 := kx6.cell 1
    simp only [List.getElem?_toArray, List.getElem?_cons_zero, List.getElem?_cons_succ] at g0 g1 f0 f1
    have hpa := hp0.below hB6.drew (fun b h => h)
    have hsa : ∀ b, Old w.heap.size b → b < w6.drew.heap.size := fun b h => Nat.lt_of_lt_of_le h hB6.size
    have hlt6 : w.heap.size < w6.heap.size := kb6.lt
    have hlt46 : w4.heap.size < w6.heap.size := kx6.lt
    have hb46 := below_then hb5 hb6
    have HP4 := hide hp4
    clear e0 e1 hi4 ht4 hi ht hp0 hp4 hb1 hB1 kb hb2 hB2 hb3 hB3 kb3 hb4 hB4 hb5 hb6 hB5 kb6 kx6 hp2
    go_region_with (first | (go_at_call 42; refine (toProg_any _ p (Old w.heap.size) _ hsz hsa hpa).mono ?_; rintro e w7 ⟨v7, rfl, hp7, hb7⟩; have f70 : w7.cell? ⟨w4.heap.size, 0, none⟩ = _ := ((bcell hb7).1 _ _ hlt46).trans f0; have f71 : w7.cell? ⟨w4.heap.size, 1, none⟩ = _ := ((bcell hb7).1 _ _ hlt46).trans f1) | (go_at_call 43; refine (eqProg_any _ v7 p (Old w7.heap.size) w7 (fun b h => h) ((HP4.out.below (below_then hb46.drew hb7) (fun b h => h.2)).more (fun b h => Nat.lt_of_lt_of_le h.2 (below_then hb46.drew hb7).size)) (hp7.more (fun b h => h.2))).mono ?_; rintro e w8 ⟨rfl, hb8⟩))
    all_goals
      go_wp2_with fail
      go_ret
      exact ⟨rfl, below_then (below_then hB6.drew hb7) hb8⟩

theorem exProgOk_walk (v : Value) (p : ProgD) (w : World) (hp : ProgAt w (Old w.heap.size) v p) :
    Calls Try.prog 10 #[v] w fun e w' => e = .returned (.bool true) ∧ Below w.heap.size w w' := by
  by_cases h : (1048576 : Int) < progSize p
  · exact exProgOk_big v p w hp h
  · exact exProgOk_small v p w hp h

theorem laidOut1 : laidOutB Try.prog = true := by kernel_rfl
theorem own1 : ownKnob Try.prog.godebug = none := by kernel_rfl

set_option maxRecDepth 100000 in
theorem exProgOk_lifted (os : Os) (started : os.Started) (H : Type) (enc : TypeId × Value → H) :
    ReturnsInHanded {} Try.checked os 10 .any (Rows.fnExactProgOkSpec.pre6 enc Try.prog Try.f10 [] false) (Rows.fnExactProgOkSpec.post enc Try.prog Try.f10 false true false false) := by
  refine returnsInHanded_of_change (C := Try.checked) own1 started (by kernel_rfl) Try.func10
    (ChangeSpec.witness6 (enc := enc) (C := Try.checked) (os := os) false ⟨#[], #[.agg #[.slice none 0 0, .slice none 0 0]], []⟩ 8 (by kernel_rfl) (by kernel_rfl) (by kernel_rfl) (by kernel_rfl)) ?_
  intro W base args ds gs before hval hW _ _
  have hW' := hW
  obtain ⟨p, q, hA0, hV, rfl, hfz, hnd⟩ := hW
  have hA : DataW.TrodAll enc Try.prog W 0 (fun _ => true) true Try.f10.params.toList args.toList ds p := hA0
  rw [Try.params10] at hA hval
  obtain ⟨v0, d0, hargs, hds, h0⟩ := trodAll_one hA
  obtain rfl : args = #[v0] := by cases args; simp_all
  obtain ⟨pd, hpd⟩ := open_prog (hval 0 _ v0 rfl rfl) h0
  refine (exProgOk_walk v0 pd W hpd).mono fun e W' ⟨he, hb⟩ => ⟨_, he, ?_⟩
  refine law_post laidOut1 (fun t ht => ?_) rfl (by kernel_rfl) Try.underlying4 (fun ds hds => ?_) hW' hb
  · rw [Try.params10] at ht
    simp at ht
    subst ht
    exact ⟨by kernel_rfl, of_decide_eq_true (by kernel_rfl)⟩
  · rw [Try.params10] at hds
    match ds, hds with
    | [_], _ => exact ⟨rfl, rfl, rfl⟩

theorem exProgOk_holds : Rows.FnExactProgOkSaid :=
  OpenClaim.holds_of_wide 10 Try.f10 rfl rfl rfl rfl rfl rfl rfl ⟨rfl, rfl, rfl, rfl, rfl⟩ rfl rfl rfl rfl rfl (by kernel_rfl) Try.func10 (by kernel_rfl)
    (of_decide_eq_true (by kernel_rfl)) (by unfold Func.isWrapper; first | (rw [if_pos (by decide +kernel)]; kernel_rfl) | (rw [if_neg (by decide +kernel)]; exact ⟨rfl, rfl⟩))
    (fun os started H enc _ => exProgOk_lifted os started H enc)
#print axioms exProgOk_holds
end Go.Proofs.Ytbchiiggfhdnkaa
