/- FnExactSameProg: for every two programs in memory impl.SameProg answers as the model does and leaves both as they were. No condition. -/
import Derived.Test.YtbchiiggfhdnkaaSSameProg
import Derived.Test.YtbchiiggfhdnkaaSz
import Derived.Test.YtbchiiggfhdnkaaEq
import Derived.Test.YtbchiiggfhdnkaaOpenProg
import Derived.Test.YtbchiiggfhdnkaaLift
import Derived.Deep.RegionWith
import Derived.Deep.DeepCutAuto
namespace Go.Proofs.Ytbchiiggfhdnkaa
open Go.RowKit Go.ChangeShapes Go.WideShapes Go.ChangeAt

set_option maxHeartbeats 1600000 in
theorem exSame_bigA (v v' : Value) (p q : ProgD) (w : World) (hp : ProgAt w (Old w.heap.size) v p) (hq : ProgAt w (Old w.heap.size) v' q) (hbig : (1048576 : Int) < progSize p) :
    Calls Try.prog 11 #[v, v'] w fun e w' => e = .returned (.bool true) ∧ Below w.heap.size w w' := by
  have hp0 := hp
  obtain ⟨A, c, A', c', rfl, _, _, _⟩ := hp
  obtain ⟨B, d, B', d', rfl, _, _, _⟩ := hq
  have hb0 := below2 w (Obj.cells #[Value.slice A p.init.length c, Value.slice A' p.ts.length c'] 71) (Obj.cells #[Value.slice B q.init.length d, Value.slice B' q.ts.length d'] 71)
  have kc := fun w S hS hp => szProg_any p (.agg #[.slice A p.init.length c, .slice A' p.ts.length c']) S 1048576 w (by omega) (by omega) hS hp
  simp only [szR_neg hbig] at kc
  have KC := hide kc
  clear kc hbig
  go_enter Try.func11, Try.ntmps11
  go_wp2_with fail
  refine (KC.out _ (Old w.heap.size) (fun b h => Nat.lt_of_lt_of_le h hb0.size) (hp0.below hb0 (fun b h => h))).mono ?_
  rintro e w1 ⟨rfl, hb1⟩
  go_wp2_with fail
  go_ret
  exact ⟨rfl, below_then hb0 hb1⟩

set_option maxHeartbeats 1600000 in
theorem exSame_bigB (v v' : Value) (p q : ProgD) (w : World) (hp : ProgAt w (Old w.heap.size) v p) (hq : ProgAt w (Old w.heap.size) v' q) (hsm : ¬ (1048576 : Int) < progSize p) (hbig : (1048576 : Int) - progSize p < progSize q) :
    Calls Try.prog 11 #[v, v'] w fun e w' => e = .returned (.bool true) ∧ Below w.heap.size w w' := by
  have hp0 := hp
  have hq0 := hq
  obtain ⟨A, c, A', c', rfl, _, _, _⟩ := hp
  obtain ⟨B, d, B', d', rfl, _, _, _⟩ := hq
  have hb0 := below2 w (Obj.cells #[Value.slice A p.init.length c, Value.slice A' p.ts.length c'] 71) (Obj.cells #[Value.slice B q.init.length d, Value.slice B' q.ts.length d'] 71)
  have kq := Blk.new (w.alloc (Obj.cells #[Value.slice A p.init.length c, Value.slice A' p.ts.length c'] 71)) 71 #[Value.slice B q.init.length d, Value.slice B' q.ts.length d']
  simp only [World.size_alloc] at kq
  have kc := fun w S hS hp => szProg_any p (.agg #[.slice A p.init.length c, .slice A' p.ts.length c']) S 1048576 w (by omega) (by omega) hS hp
  simp only [szR_pos hsm] at kc
  have KC := hide kc
  have kd := fun w S hS hp => szProg_any q (.agg #[.slice B q.init.length d, .slice B' q.ts.length d']) S (1048576 - progSize p) w (by omega) (by omega) hS hp
  simp only [szR_neg hbig] at kd
  have KD := hide kd
  have hpos : 0 ≤ (1048576 : Int) - progSize p := by omega
  clear kc kd hbig hsm
  go_enter Try.func11, Try.ntmps11
  go_wp2_with fail
  refine (KC.out _ (Old w.heap.size) (fun b h => Nat.lt_of_lt_of_le h hb0.size) (hp0.below hb0 (fun b h => h))).mono ?_
  rintro e w1 ⟨rfl, hb1⟩
  have hB1 := below_then hb0 hb1
  have kq1 := kq.below hb1 (by simp)
  have e0 := kq1.cell 0
  have e1 := kq1.cell 1
  simp only [List.getElem?_toArray, List.getElem?_cons_zero, List.getElem?_cons_succ] at e0 e1
  clear kq kq1
  go_wp2_with fail
  refine (KD.out _ (Old w.heap.size) (fun b h => Nat.lt_of_lt_of_le h hB1.size) (hq0.below hB1 (fun b h => h))).mono ?_
  rintro e w2 ⟨rfl, hb2⟩
  go_wp2_with fail
  go_ret
  exact ⟨rfl, below_then hB1 hb2⟩

set_option maxRecDepth 100000 in
set_option maxHeartbeats 6400000 in
theorem exSame_small (v v' : Value) (p q : ProgD) (w : World) (hp : ProgAt w (Old w.heap.size) v p) (hq : ProgAt w (Old w.heap.size) v' q) (hsm : ¬ (1048576 : Int) < progSize p) (hsm2 : ¬ (1048576 : Int) - progSize p < progSize q) :
    Calls Try.prog 11 #[v, v'] w fun e w' => e = .returned (.bool true) ∧ Below w.heap.size w w' := by
  have hp0 := hp
  have hq0 := hq
  obtain ⟨A, c, A', c', rfl, _, _, _⟩ := hp
  obtain ⟨B, d, B', d', rfl, _, _, _⟩ := hq
  have hb0 := below2 w (Obj.cells #[Value.slice A p.init.length c, Value.slice A' p.ts.length c'] 71) (Obj.cells #[Value.slice B q.init.length d, Value.slice B' q.ts.length d'] 71)
  have kp := (Blk.new w 71 #[Value.slice A p.init.length c, Value.slice A' p.ts.length c']).alloc (Obj.cells #[Value.slice B q.init.length d, Value.slice B' q.ts.length d'] 71)
  have kq := Blk.new (w.alloc (Obj.cells #[Value.slice A p.init.length c, Value.slice A' p.ts.length c'] 71)) 71 #[Value.slice B q.init.length d, Value.slice B' q.ts.length d']
  simp only [World.size_alloc] at kq
  have kc := fun w S hS hp => szProg_any p (.agg #[.slice A p.init.length c, .slice A' p.ts.length c']) S 1048576 w (by omega) (by omega) hS hp
  simp only [szR_pos hsm] at kc
  have KC := hide kc
  have kd := fun w S hS hp => szProg_any q (.agg #[.slice B q.init.length d, .slice B' q.ts.length d']) S (1048576 - progSize p) w (by omega) (by omega) hS hp
  simp only [szR_pos hsm2] at kd
  have KD := hide kd
  have hpos : 0 ≤ (1048576 : Int) - progSize p := by omega
  have hpos2 : 0 ≤ (1048576 : Int) - progSize p - progSize q := by omega
  have hsp : progSize p ≤ 1048576 := by omega
  have hsq : progSize q ≤ 1048576 := by omega
  have K1 := hide (fun v v' S w hS hp hq => ssameProg_any v v' p q S w hS hp hq)
  have K2 := hide (fun v v' S w hS hp hq => sameProg_any v v' p q S w hsp hsq hS hp hq)
  clear kc kd hsm2 hsm
  generalize sameP p q = res at K1 K2
  go_enter Try.func11, Try.ntmps11
  go_wp2_with fail
  refine (KC.out _ (Old w.heap.size) (fun b h => Nat.lt_of_lt_of_le h hb0.size) (hp0.below hb0 (fun b h => h))).mono ?_
  rintro e w1 ⟨rfl, hb1⟩
  have hB1 := below_then hb0 hb1
  have kp1 := kp.below hb1 (by simp; omega)
  have kq1 := kq.below hb1 (by simp)
  have e0 := kq1.cell 0
  have e1 := kq1.cell 1
  simp only [List.getElem?_toArray, List.getElem?_cons_zero, List.getElem?_cons_succ] at e0 e1
  go_wp2_with fail
  refine (KD.out _ (Old w.heap.size) (fun b h => Nat.lt_of_lt_of_le h hB1.size) (hq0.below hB1 (fun b h => h))).mono ?_
  rintro e w2 ⟨rfl, hb2⟩
  have hB2 := below_then hB1 hb2
  have kp2 := kp1.below hb2 kp1.lt
  have kq2 := kq1.below hb2 kq1.lt
  clear e0 e1 kp kq kp1 kq1 KC KD
  have e0 := kp2.cell 0
  have e1 := kp2.cell 1
  have e2 := kq2.cell 0
  have e3 := kq2.cell 1
  simp only [List.getElem?_toArray, List.getElem?_cons_zero, List.getElem?_cons_succ] at e0 e1 e2 e3
  have KP2 := hide kp2
  have KQ2 := hide kq2
  have hltp := kp2.lt
  have hltq := kq2.lt
  clear kp2 kq2 hb0 hb1 hb2 hB1
  go_wp2_with fail
  go_cut [6] (fun s6 wx => s6 = .bool res ∧ Below w2.heap.size w2 wx)
  case first =>
    have hpa := hp0.below hB2.drew (fun b h => h)
    have hqa := hq0.below hB2.drew (fun b h => h)
    have hsa : ∀ b, Old w.heap.size b → b < w2.drew.heap.size := fun b h => Nat.lt_of_lt_of_le h hB2.size
    clear hp0 hq0
    go_region_with (first | (go_at_call_of 42 (Value.agg #[Value.slice A p.init.length c, Value.slice A' p.ts.length c']); refine (toProg_any _ p (Old w.heap.size) _ hsp hsa hpa).mono ?_; rintro e w3 ⟨v3, rfl, hp3, hb3⟩; have f0 : w3.cell? ⟨w.heap.size + 1, 0, none⟩ = _ := ((bcell hb3).1 _ _ hltq).trans e2; have f1 : w3.cell? ⟨w.heap.size + 1, 1, none⟩ = _ := ((bcell hb3).1 _ _ hltq).trans e3) | (go_at_call_of 42 (Value.agg #[Value.slice B q.init.length d, Value.slice B' q.ts.length d']); refine (toProg_any _ q (Old w.heap.size) w3 hsq (fun b h => Nat.lt_of_lt_of_le (hsa b h) hb3.size) (hqa.below hb3 hsa)).mono ?_; rintro e w4 ⟨v4, rfl, hp4, hb4⟩) | (go_at_call 25; refine (K1.out v3 v4 (Old w4.heap.size) w4 (fun b h => h) ((hp3.below hb4 (fun b h => h.2)).more (fun b h => Nat.lt_of_lt_of_le h.2 hb4.size)) (hp4.more (fun b h => h.2))).mono ?_; rintro e w5 ⟨rfl, hb5⟩))
    all_goals
      go_wp2_with fail
      go_meet
      exact ⟨rfl, below_then (below_then (Below.drew (Below.refl _ _) |>.trans (hb3.mono (Nat.le_refl _))) hb4) hb5⟩
  case rest =>
    obtain ⟨rfl, hbc⟩ := hcut
    obtain ⟨wq, rfl⟩ : ∃ wq : World, wq = wc := ⟨_, rfl⟩
    have hBc := below_then hB2 hbc
    have kp := KP2.out.below hbc hltp
    have kq := KQ2.out.below hbc hltq
    clear e0 e1 e2 e3
    have e0 := kp.cell 0
    have e1 := kp.cell 1
    simp only [List.getElem?_toArray, List.getElem?_cons_zero, List.getElem?_cons_succ] at e0 e1
    have hself : (res != res) = false := by cases res <;> rfl
    go_wp2_with fail
    refine (toProg_any _ p (Old w.heap.size) _ hsp (fun b h => Nat.lt_of_lt_of_le h hBc.size) (hp0.below hBc (fun b h => h))).mono ?_
    rintro e w3 ⟨v3, rfl, hp3, hb3⟩
    have hB3 := below_then hBc hb3
    obtain ⟨A3, c3, A3', c3', rfl, hcc3, hi3, ht3⟩ := hp3
    have hp3 : ProgAt w3 (New wq.heap.size w3.heap.size) (.agg #[.slice A3 p.init.length c3, .slice A3' p.ts.length c3']) p := ⟨A3, c3, A3', c3', rfl, hcc3, hi3, ht3⟩
    have kq3 := (kq.below hb3 kq.lt).alloc (Obj.cells #[Value.slice A3 p.init.length c3, Value.slice A3' p.ts.length c3'] 36)
    have e2 := kq3.cell 0
    have e3 := kq3.cell 1
    simp only [List.getElem?_toArray, List.getElem?_cons_zero, List.getElem?_cons_succ] at e2 e3
    have hb3' := below1 w3 (Obj.cells #[Value.slice A3 p.init.length c3, Value.slice A3' p.ts.length c3'] 36)
    have hB3' := below_then hB3 hb3'
    go_wp2_with fail
    refine (toProg_any _ q (Old w.heap.size) _ hsq (fun b h => Nat.lt_of_lt_of_le h hB3'.size) (hq0.below hB3' (fun b h => h))).mono ?_
    rintro e w4 ⟨v4, rfl, hp4, hb4⟩
    have hB4 := below_then hB3' hb4
    obtain ⟨A4, c4, A4', c4', rfl, hcc4, hi4, ht4⟩ := hp4
    have hp4 : ProgAt w4 (New (w3.alloc (Obj.cells #[Value.slice A3 p.init.length c3, Value.slice A3' p.ts.length c3'] 36)).heap.size w4.heap.size) (.agg #[.slice A4 q.init.length c4, .slice A4' q.ts.length c4']) q := ⟨A4, c4, A4', c4', rfl, hcc4, hi4, ht4⟩
    have hb4' := below1 w4 (Obj.cells #[Value.slice A4 q.init.length c4, Value.slice A4' q.ts.length c4'] 36)
    have hB4' := below_then hB4 hb4'
    have kx3 := ((Blk.new w3 36 #[Value.slice A3 p.init.length c3, Value.slice A3' p.ts.length c3']).below hb4 (by simp)).alloc (Obj.cells #[Value.slice A4 q.init.length c4, Value.slice A4' q.ts.length c4'] 36)
    have kx4 := Blk.new w4 36 #[Value.slice A4 q.init.length c4, Value.slice A4' q.ts.length c4']
    have x0 := kx3.cell 0
    have x1 := kx3.cell 1
    simp only [List.getElem?_toArray, List.getElem?_cons_zero, List.getElem?_cons_succ] at x0 x1
    have h34 := below_then hb3' hb4
    have h34' := below_then h34 hb4'
    have hp3' : ProgAt (w4.alloc (Obj.cells #[Value.slice A4 q.init.length c4, Value.slice A4' q.ts.length c4'] 36)) (Old w4.heap.size) (.agg #[.slice A3 p.init.length c3, .slice A3' p.ts.length c3']) p := (hp3.below h34' (fun b h => h.2)).more (fun b h => Nat.lt_of_lt_of_le h.2 h34.size)
    have hp4' : ProgAt (w4.alloc (Obj.cells #[Value.slice A4 q.init.length c4, Value.slice A4' q.ts.length c4'] 36)) (Old w4.heap.size) (.agg #[.slice A4 q.init.length c4, .slice A4' q.ts.length c4']) q := (hp4.below hb4' (fun b h => h.2)).more (fun b h => h.2)
    have kp4 := (((kp.below hb3 kp.lt).alloc (Obj.cells #[Value.slice A3 p.init.length c3, Value.slice A3' p.ts.length c3'] 36)).below hb4 (by have := kp.lt; have := hb3.size; simp; omega)).alloc (Obj.cells #[Value.slice A4 q.init.length c4, Value.slice A4' q.ts.length c4'] 36)
    have kq4 := (kq3.below hb4 kq3.lt).alloc (Obj.cells #[Value.slice A4 q.init.length c4, Value.slice A4' q.ts.length c4'] 36)
    go_wp2_with fail
    refine (K2.out _ _ (Old w4.heap.size) _ (fun b h => Nat.lt_of_lt_of_le h hb4'.size) hp3' hp4').mono ?_
    rintro e w5 ⟨rfl, hb5⟩
    have hB5 := below_then hB4' hb5
    have kp5 := kp4.below hb5 kp4.lt
    have kq5 := kq4.below hb5 kq4.lt
    have kx5 := kx3.below hb5 kx3.lt
    have ky5 := kx4.below hb5 kx4.lt
    have hp5 := hp3'.below hb5 (fun b h => Nat.lt_of_lt_of_le h hb4'.size)
    have hq5 := hp4'.below hb5 (fun b h => Nat.lt_of_lt_of_le h hb4'.size)
    have h45 : w4.heap.size ≤ w5.heap.size := Nat.le_trans hb4'.size hb5.size
    clear e0 e1 e2 e3 x0 x1 kp kq kq3 kx3 kx4 kp4 kq4 hp3' hp4' hp3 hp4 hi3 ht3 hi4 ht4 h34 h34' hb4 hb4' hb5 hB4 hB4' hb3 hb3' hB3 hB3' hBc hbc hB2 K1 K2 KP2 KQ2 hltp hltq
    have e0 := kp5.cell 0
    have e1 := kp5.cell 1
    have e2 := kq5.cell 0
    have e3 := kq5.cell 1
    have x0 := kx5.cell 0
    have x1 := kx5.cell 1
    have y0 := ky5.cell 0
    have y1 := ky5.cell 1
    simp only [List.getElem?_toArray, List.getElem?_cons_zero, List.getElem?_cons_succ] at e0 e1 e2 e3 x0 x1 y0 y1
    have KQ5 := hide kq5
    have KY5 := hide ky5
    have lq5 := kq5.lt
    have ly5 := ky5.lt
    have lx5 := kx5.lt
    have HP5 := hide hp5
    have HQ5 := hide hq5
    clear kp5 kq5 kx5 ky5 hp5 hq5
    go_wp2_with fail
    go_cut [39] (fun s39 wx => s39 = .bool false ∧ Below w5.heap.size w5 wx)
    case first =>
      have hpa := hp0.below hB5.drew (fun b h => h)
      have hsa : ∀ b, Old w.heap.size b → b < w5.drew.heap.size := fun b h => Nat.lt_of_lt_of_le h hB5.size
      clear hp0 hq0
      go_region_with (first | (go_at_call 42; refine (toProg_any _ p (Old w.heap.size) _ hsp hsa hpa).mono ?_; rintro e w6 ⟨v6, rfl, hp6, hb6⟩; have f70 : w6.cell? ⟨w3.heap.size, 0, none⟩ = _ := ((bcell hb6).1 _ _ lx5).trans x0; have f71 : w6.cell? ⟨w3.heap.size, 1, none⟩ = _ := ((bcell hb6).1 _ _ lx5).trans x1) | (go_at_call 43; refine (eqProg_any _ v6 p (Old w6.heap.size) w6 (fun b h => h) ((HP5.out.below (below_then (Below.drew (Below.refl _ _)) hb6) (fun b h => Nat.lt_of_lt_of_le h h45)).more (fun b h => Nat.lt_of_lt_of_le h (Nat.le_trans h45 hb6.size))) (hp6.more (fun b h => h.2))).mono ?_; rintro e w7 ⟨rfl, hb7⟩))
      all_goals
        go_wp2_with fail
        go_meet
        exact ⟨rfl, below_then (below_then (Below.drew (Below.refl _ _)) hb6) hb7⟩
    case rest =>
      obtain ⟨rfl, hbd⟩ := hcut
      obtain ⟨wr, rfl⟩ : ∃ wr : World, wr = wc := ⟨_, rfl⟩
      have hB6 := below_then hB5 hbd
      have kq := KQ5.out.below hbd lq5
      have ky := KY5.out.below hbd ly5
      clear e0 e1 e2 e3 x0 x1 y0 y1
      have e2 := kq.cell 0
      have e3 := kq.cell 1
      have y0 := ky.cell 0
      have y1 := ky.cell 1
      simp only [List.getElem?_toArray, List.getElem?_cons_zero, List.getElem?_cons_succ] at e2 e3 y0 y1
      have ly6 := ky.lt
      have hq6 := HQ5.out.below hbd (fun b h => Nat.lt_of_lt_of_le h h45)
      have h46 : w4.heap.size ≤ wr.heap.size := Nat.le_trans h45 hbd.size
      have hqa := hq0.below hB6.drew (fun b h => h)
      have hsa : ∀ b, Old w.heap.size b → b < wr.drew.heap.size := fun b h => Nat.lt_of_lt_of_le h hB6.size
      have HQ6 := hide hq6
      clear hp0 hq0 kq ky hq6 KQ5 KY5 HP5 HQ5
      go_wp2_with fail
      go_region_with (first | (go_at_call 42; refine (toProg_any _ q (Old w.heap.size) _ hsq hsa hqa).mono ?_; rintro e w6 ⟨v6, rfl, hp6, hb6⟩; have f70 : w6.cell? ⟨w4.heap.size, 0, none⟩ = _ := ((bcell hb6).1 _ _ ly6).trans y0; have f71 : w6.cell? ⟨w4.heap.size, 1, none⟩ = _ := ((bcell hb6).1 _ _ ly6).trans y1) | (go_at_call 43; refine (eqProg_any _ v6 q (Old w6.heap.size) w6 (fun b h => h) ((HQ6.out.below (below_then (Below.drew (Below.refl _ _)) hb6) (fun b h => Nat.lt_of_lt_of_le h h46)).more (fun b h => Nat.lt_of_lt_of_le h (Nat.le_trans h46 hb6.size))) (hp6.more (fun b h => h.2))).mono ?_; rintro e w7 ⟨rfl, hb7⟩))
      all_goals
        go_wp2_with fail
        go_ret
        exact ⟨rfl, below_then (below_then hB6.drew hb6) hb7⟩

theorem exSame_walk (v v' : Value) (p q : ProgD) (w : World) (hp : ProgAt w (Old w.heap.size) v p) (hq : ProgAt w (Old w.heap.size) v' q) :
    Calls Try.prog 11 #[v, v'] w fun e w' => e = .returned (.bool true) ∧ Below w.heap.size w w' := by
  by_cases h : (1048576 : Int) < progSize p
  · exact exSame_bigA v v' p q w hp hq h
  by_cases h2 : (1048576 : Int) - progSize p < progSize q
  · exact exSame_bigB v v' p q w hp hq h h2
  · exact exSame_small v v' p q w hp hq h h2

theorem laidOut2 : laidOutB Try.prog = true := by kernel_rfl
theorem own2 : ownKnob Try.prog.godebug = none := by kernel_rfl

set_option maxRecDepth 100000 in
theorem exSame_lifted (os : Os) (started : os.Started) (H : Type) (enc : TypeId × Value → H) :
    ReturnsInHanded {} Try.checked os 11 .any (Rows.fnExactSameProgSpec.pre6 enc Try.prog Try.f11 [] false) (Rows.fnExactSameProgSpec.post enc Try.prog Try.f11 false true false false) := by
  refine returnsInHanded_of_change (C := Try.checked) own2 started (by kernel_rfl) Try.func11
    (ChangeSpec.witness6 (enc := enc) (C := Try.checked) (os := os) false ⟨#[], #[.agg #[.slice none 0 0, .slice none 0 0], .agg #[.slice none 0 0, .slice none 0 0]], []⟩ 8 (by kernel_rfl) (by kernel_rfl) (by kernel_rfl) (by kernel_rfl)) ?_
  intro W base args ds gs before hval hW _ _
  have hW' := hW
  obtain ⟨p, q, hA0, hV, rfl, hfz, hnd⟩ := hW
  have hA : DataW.TrodAll enc Try.prog W 0 (fun _ => true) true Try.f11.params.toList args.toList ds p := hA0
  rw [Try.params11] at hA hval
  obtain ⟨v0, v1, d0, d1, p0, p1, hargs, hds, hps, h0, h1⟩ := trodAll_two hA
  obtain rfl : args = #[v0, v1] := by cases args; simp_all
  obtain ⟨pd, hpd⟩ := open_prog (hval 0 _ v0 rfl rfl) h0
  obtain ⟨qd, hqd⟩ := open_prog (hval 1 _ v1 rfl rfl) h1
  refine (exSame_walk v0 v1 pd qd W hpd hqd).mono fun e W' ⟨he, hb⟩ => ⟨_, he, ?_⟩
  refine law_post laidOut2 (fun t ht => ?_) rfl (by kernel_rfl) Try.underlying4 (fun ds hds => ?_) hW' hb
  · rw [Try.params11] at ht
    simp at ht
    subst ht
    exact ⟨by kernel_rfl, of_decide_eq_true (by kernel_rfl)⟩
  · rw [Try.params11] at hds
    match ds, hds with
    | [_, _], _ => exact ⟨rfl, rfl, rfl⟩

theorem exSameProg_holds : Rows.FnExactSameProgSaid :=
  OpenClaim.holds_of_wide 11 Try.f11 rfl rfl rfl rfl rfl rfl rfl ⟨rfl, rfl, rfl, rfl, rfl⟩ rfl rfl rfl rfl rfl (by kernel_rfl) Try.func11 (by kernel_rfl)
    (of_decide_eq_true (by kernel_rfl)) (by unfold Func.isWrapper; first | (rw [if_pos (by decide +kernel)]; kernel_rfl) | (rw [if_neg (by decide +kernel)]; exact ⟨rfl, rfl⟩))
    (fun os started H enc _ => exSame_lifted os started H enc)
#print axioms exSameProg_holds
end Go.Proofs.Ytbchiiggfhdnkaa
