/- FnSame: for every code, the drawn programs are judged the same or not as by the model, from both sides alike, the first is the same as itself, and is judged by ProgOk as by the model. No condition. -/
import Derived.Test.YtbchiiggfhdnkaaDSame
import Derived.Test.YtbchiiggfhdnkaaProgs
import Derived.Test.YtbchiiggfhdnkaaSSameProg
import Derived.Test.YtbchiiggfhdnkaaSProgOk
namespace Go.Proofs.Ytbchiiggfhdnkaa
open Go.RowKit Go.ChangeShapes Go.WideShapes Go.ChangeAt

theorem allB_congr {f g : Nat → Bool} {n : Nat} (h : ∀ k, k < n → f k = g k) : allB f n = allB g n := by
  cases e : allB g n
  · unfold allB at e
    rw [List.all_eq_false] at e
    obtain ⟨k, hk, hf⟩ := e
    exact allB_no (k := k) (by simpa using hk) (by rw [h k (by simpa using hk)]; simpa using hf)
  · exact allB_yes (fun k hk => (h k hk).trans (allB_at e hk))
theorem insEq_comm (d e : InsD) : insEq d e = insEq e d := by
  unfold insEq
  rw [Bool.beq_comm (a := d.o), Bool.beq_comm (a := d.r), Bool.beq_comm (a := d.a), Bool.beq_comm (a := d.b), Bool.beq_comm (a := d.x), Bool.beq_comm (a := d.n)]
theorem insEq_self (d : InsD) : insEq d d = true := by simp [insEq]

theorem sameI_comm (a b : List Int) : sameI a b = sameI b a := by
  unfold sameI
  by_cases h : a.length = b.length
  · rw [decide_eq_true h, decide_eq_true h.symm, h]
    exact congrArg _ (allB_congr (fun k _ => Bool.beq_comm))
  · rw [decide_eq_false h, decide_eq_false (fun e => h e.symm)]; rfl
theorem sameD_comm (a b : List InsD) : sameD a b = sameD b a := by
  unfold sameD
  by_cases h : a.length = b.length
  · rw [decide_eq_true h, decide_eq_true h.symm, h]
    exact congrArg _ (allB_congr (fun k _ => insEq_comm _ _))
  · rw [decide_eq_false h, decide_eq_false (fun e => h e.symm)]; rfl
theorem sameT_comm (a b : List (List InsD)) : sameT a b = sameT b a := by
  unfold sameT
  by_cases h : a.length = b.length
  · rw [decide_eq_true h, decide_eq_true h.symm, h]
    exact congrArg _ (allB_congr (fun k _ => sameD_comm _ _))
  · rw [decide_eq_false h, decide_eq_false (fun e => h e.symm)]; rfl
theorem sameP_comm (p q : ProgD) : sameP p q = sameP q p := by unfold sameP; rw [sameI_comm, sameT_comm]
theorem sameP_self (p : ProgD) : sameP p p = true := by
  unfold sameP sameI sameT sameD
  simp only [decide_true, Bool.true_and, Bool.and_eq_true]
  exact ⟨allB_yes (fun k _ => by simp), allB_yes (fun k _ => allB_yes (fun j _ => insEq_self _))⟩

theorem bent_size {p : ProgD} (h : BentOk p.init p.ts) : progSize p ≤ 1048576 := by
  unfold progSize tsSize
  have h1 := h.1.1
  have h2 := h.2.1.2
  have h3 : ∀ l : List (List InsD), (∀ x ∈ l, x.length ≤ 25) → (l.map List.length).sum ≤ l.length * 25 := by
    intro l
    induction l with
    | nil => intro _; simp
    | cons a l ih =>
      intro hl
      have := hl a (by simp)
      have := ih (fun x hx => hl x (by simp [hx]))
      simp only [List.map_cons, List.sum_cons, List.length_cons]
      omega
  have h4 := h3 p.ts (fun x hx => (h.2.2 x hx).1)
  omega

/-- Two programs in two blocks. -/
structure Two (B T U : Nat) (a b a' b' : Value) (p q : ProgD) (w : World) : Prop where
  blkT : Blk w T 36 #[a, b]
  blkU : Blk w U 36 #[a', b']
  hp : ProgAt w (Old B) (.agg #[a, b]) p
  hq : ProgAt w (Old B) (.agg #[a', b']) q
  size : B ≤ w.heap.size

section
variable {B T U : Nat} {a b a' b' : Value} {p q : ProgD} {w w' : World}
theorem Two.next (h : Two B T U a b a' b' p q w) (hb : Below w.heap.size w w') : Two B T U a b a' b' p q w' :=
  ⟨h.blkT.below hb h.blkT.lt, h.blkU.below hb h.blkU.lt, h.hp.below hb (fun _ hb2 => Nat.lt_of_lt_of_le hb2 h.size), h.hq.below hb (fun _ hb2 => Nat.lt_of_lt_of_le hb2 h.size), Nat.le_trans h.size hb.size⟩
theorem Two.drew (h : Two B T U a b a' b' p q w) : Two B T U a b a' b' p q w.drew := ⟨h.blkT, h.blkU, h.hp, h.hq, h.size⟩
theorem Two.lts (h : Two B T U a b a' b' p q w) : ∀ b, Old B b → b < w.heap.size := fun _ hb => Nat.lt_of_lt_of_le hb h.size
theorem Two.cells (h : Two B T U a b a' b' p q w) : w.cell? ⟨T, 0, none⟩ = some a ∧ w.cell? ⟨T, 1, none⟩ = some b ∧ w.cell? ⟨U, 0, none⟩ = some a' ∧ w.cell? ⟨U, 1, none⟩ = some b' :=
  ⟨h.blkT.cell 0, h.blkT.cell 1, h.blkU.cell 0, h.blkU.cell 1⟩
end

set_option maxRecDepth 100000 in
set_option maxHeartbeats 6400000 in
theorem fnSame_walk (A : Option Addr) (n c : Nat) (w : World) (hn : n ≤ c) (ha : BytesAt w (Old w.heap.size) A n) :
    Calls Try.prog 5 #[.slice A n c] w fun e w' => e = .returned (.bool true) ∧ Below w.heap.size w w' := by
  go_enter Try.func5, Try.ntmps5
  go_wp2_with fail
  refine (drawSame_any A n c _ hn ha).mono ?_
  rintro e w1 ⟨v, v', p, q, rfl, ⟨hp, hq⟩, ⟨hbp, hbq⟩, hb1⟩
  have hsp := bent_size hbp
  have hsq := bent_size hbq
  clear hbp hbq
  have hp0 := hp
  have hq0 := hq
  obtain ⟨A1, c1, A2, c2, rfl, -⟩ := hp0
  obtain ⟨A3, c3, A4, c4, rfl, -⟩ := hq0
  have H0 : Two w1.heap.size w1.heap.size (w1.heap.size + 1) (Value.slice A1 p.init.length c1) (Value.slice A2 p.ts.length c2) (Value.slice A3 q.init.length c3) (Value.slice A4 q.ts.length c4) p q ((w1.alloc (Obj.cells #[Value.slice A1 p.init.length c1, Value.slice A2 p.ts.length c2] 36)).alloc (Obj.cells #[Value.slice A3 q.init.length c3, Value.slice A4 q.ts.length c4] 36)) := by
    have hb := below2 w1 (Obj.cells #[Value.slice A1 p.init.length c1, Value.slice A2 p.ts.length c2] 36) (Obj.cells #[Value.slice A3 q.init.length c3, Value.slice A4 q.ts.length c4] 36)
    have hU := Blk.new (w1.alloc (Obj.cells #[Value.slice A1 p.init.length c1, Value.slice A2 p.ts.length c2] 36)) 36 #[Value.slice A3 q.init.length c3, Value.slice A4 q.ts.length c4]
    simp only [World.size_alloc] at hU
    exact ⟨(Blk.new w1 _ _).alloc _, hU, hp.below hb (fun _ h => h), hq.below hb (fun _ h => h), hb.size⟩
  replace H0 := hide H0
  have hb2 := hide (below2 w1 (Obj.cells #[Value.slice A1 p.init.length c1, Value.slice A2 p.ts.length c2] 36) (Obj.cells #[Value.slice A3 q.init.length c3, Value.slice A4 q.ts.length c4] 36))
  clear hp hq
  have kpq := fun S w hS hp hq => sameProg_any (.agg #[Value.slice A1 p.init.length c1, Value.slice A2 p.ts.length c2]) (.agg #[Value.slice A3 q.init.length c3, Value.slice A4 q.ts.length c4]) p q S w hsp hsq hS hp hq
  have kqp := fun S w hS hp hq => sameProg_any (.agg #[Value.slice A3 q.init.length c3, Value.slice A4 q.ts.length c4]) (.agg #[Value.slice A1 p.init.length c1, Value.slice A2 p.ts.length c2]) q p S w hsq hsp hS hp hq
  have kpp := fun S w hS hp hq => sameProg_any (.agg #[Value.slice A1 p.init.length c1, Value.slice A2 p.ts.length c2]) (.agg #[Value.slice A1 p.init.length c1, Value.slice A2 p.ts.length c2]) p p S w hsp hsp hS hp hq
  have kss := fun S w hS hp hq => ssameProg_any (.agg #[Value.slice A1 p.init.length c1, Value.slice A2 p.ts.length c2]) (.agg #[Value.slice A3 q.init.length c3, Value.slice A4 q.ts.length c4]) p q S w hS hp hq
  have kok := fun S w hS hp => progOk_any (.agg #[Value.slice A1 p.init.length c1, Value.slice A2 p.ts.length c2]) p S w hS hp
  have ksk := fun S w hS hp => sprogOk_any (.agg #[Value.slice A1 p.init.length c1, Value.slice A2 p.ts.length c2]) p S w hS hp
  rw [sameP_comm q p] at kqp
  rw [sameP_self] at kpp
  generalize sameP p q = res at *
  generalize progB p = pk at *
  replace kpq := hide kpq
  replace kqp := hide kqp
  replace kpp := hide kpp
  replace kss := hide kss
  replace kok := hide kok
  replace ksk := hide ksk
  clear hsp hsq
  go_wp2_with fail
  obtain ⟨wq, hwq⟩ : ∃ wq, wq = (w1.alloc (Obj.cells #[Value.slice A1 p.init.length c1, Value.slice A2 p.ts.length c2] 36)).alloc (Obj.cells #[Value.slice A3 q.init.length c3, Value.slice A4 q.ts.length c4] 36) := ⟨_, rfl⟩
  rw [← hwq] at H0 hb2 ⊢
  clear hwq
  replace H0 := hide H0.out.drew
  have hself : (res == res) = true := by simp
  have hself2 : (pk == pk) = true := by simp
  go_region_held3 (fun w' => w'.cell? ⟨w1.heap.size, 0, none⟩ = some (Value.slice A1 p.init.length c1) ∧ w'.cell? ⟨w1.heap.size, 1, none⟩ = some (Value.slice A2 p.ts.length c2) ∧ w'.cell? ⟨w1.heap.size + 1, 0, none⟩ = some (Value.slice A3 q.init.length c3) ∧ w'.cell? ⟨w1.heap.size + 1, 1, none⟩ = some (Value.slice A4 q.ts.length c4))
    (first | exact H0.out.cells | exact H2.out.cells | exact H3.out.cells | exact H4.out.cells | exact H5.out.cells | exact H6.out.cells | exact H7.out.cells | exact H8.out.cells | exact H9.out.cells)
    (first
    | (go_at_call 26; refine (kok.out _ _ H6.out.lts H6.out.hp).mono ?_; rintro e w7 ⟨rfl, hb7⟩; have H7 := hide (H6.out.next hb7); have B7 := hide (below_then B6.out hb7))
    | (go_at_call 27; refine (ksk.out _ _ H7.out.lts H7.out.hp).mono ?_; rintro e w8 ⟨rfl, hb8⟩; have H8 := hide (H7.out.next hb8); have B8 := hide (below_then B7.out hb8))
    | (go_at_call 19; refine (progs_any _).mono ?_; rintro e w9 ⟨rfl, hb9⟩; have H9 := hide (H8.out.next hb9); have B9 := hide (below_then B8.out hb9))
    | (go_at_call 25; refine (kss.out _ _ H2.out.lts H2.out.hp H2.out.hq).mono ?_; rintro e w3 ⟨rfl, hb3⟩; have H3 := hide (H2.out.next hb3); have B3 := hide (below_then B2.out hb3))
    | (go_at_call_of 24 ([Value.agg #[Value.slice A1 p.init.length c1, Value.slice A2 p.ts.length c2], Value.agg #[Value.slice A1 p.init.length c1, Value.slice A2 p.ts.length c2]]); refine (kpp.out _ _ H5.out.lts H5.out.hp H5.out.hp).mono ?_; rintro e w6 ⟨rfl, hb6⟩; have H6 := hide (H5.out.next hb6); have B6 := hide (below_then B5.out hb6))
    | (go_at_call_of 24 ([Value.agg #[Value.slice A3 q.init.length c3, Value.slice A4 q.ts.length c4], Value.agg #[Value.slice A1 p.init.length c1, Value.slice A2 p.ts.length c2]]); refine (kqp.out _ _ H4.out.lts H4.out.hq H4.out.hp).mono ?_; rintro e w5 ⟨rfl, hb5⟩; have H5 := hide (H4.out.next hb5); have B5 := hide (below_then B4.out hb5))
    | (go_at_call_of 24 ([Value.agg #[Value.slice A1 p.init.length c1, Value.slice A2 p.ts.length c2], Value.agg #[Value.slice A3 q.init.length c3, Value.slice A4 q.ts.length c4]]); refine (kpq.out _ _ H3.out.lts H3.out.hp H3.out.hq).mono ?_; rintro e w4 ⟨rfl, hb4⟩; have H4 := hide (H3.out.next hb4); have B4 := hide (below_then B3.out hb4))
    | (go_at_call_of 24 ([Value.agg #[Value.slice A1 p.init.length c1, Value.slice A2 p.ts.length c2], Value.agg #[Value.slice A3 q.init.length c3, Value.slice A4 q.ts.length c4]]); refine (kpq.out _ _ H0.out.lts H0.out.hp H0.out.hq).mono ?_; rintro e w2 ⟨rfl, hb3⟩; have H2 := hide (H0.out.next hb3); have B2 := hide (below_then hb2.out.drew hb3)))
  all_goals
    go_wp2_with fail
    go_ret
    exact ⟨rfl, below_then hb1 B9.out⟩

-- LIFT (gen_law.py)
theorem laidOut_fnSame : laidOutB Try.prog = true := by kernel_rfl
theorem own_fnSame : ownKnob Try.prog.godebug = none := by kernel_rfl

set_option maxRecDepth 100000 in
theorem fnSame_lifted (os : Os) (started : os.Started) (H : Type) (enc : TypeId × Value → H) :
    ReturnsInHanded {} Try.checked os 5 .any (Rows.fnSameSpec.pre6 enc Try.prog Try.f5 [] false) (Rows.fnSameSpec.post enc Try.prog Try.f5 false true false false) := by
  refine returnsInHanded_of_change (C := Try.checked) own_fnSame started (by kernel_rfl) Try.func5
    (ChangeSpec.witness6 (enc := enc) (C := Try.checked) (os := os) false ⟨#[], #[.slice none 0 0], []⟩ 8 (by kernel_rfl) (by kernel_rfl) (by kernel_rfl) (by kernel_rfl)) ?_
  intro W base args ds gs before hval hW _ _
  have hW' := hW
  obtain ⟨p, q, hA0, hV, rfl, hfz, hnd⟩ := hW
  have hA : DataW.TrodAll enc Try.prog W 0 (fun _ => true) true Try.f5.params.toList args.toList ds p := hA0
  rw [Try.params5] at hA hval
  obtain ⟨v0, d0, rfl, rfl, h0⟩ := trodAll_one hA
  obtain ⟨A, n, c, rfl, hn, ha⟩ := open_code (hval 0 _ v0 rfl rfl) h0
  refine (fnSame_walk A n c W hn ha).mono fun e W' ⟨he, hb⟩ => ⟨_, he, ?_⟩
  refine law_post laidOut_fnSame (fun t ht => ?_) rfl (by kernel_rfl) Try.underlying4 (fun ds hds => ?_) hW' hb
  · rw [Try.params5] at ht
    simp at ht
    subst ht
    exact ⟨by kernel_rfl, of_decide_eq_true (by kernel_rfl)⟩
  · rw [Try.params5] at hds
    match ds, hds with
    | [_], _ => exact ⟨rfl, rfl, rfl⟩

theorem fnSame_holds : Rows.FnSameSaid :=
  OpenClaim.holds_of_wide 5 Try.f5 rfl rfl rfl rfl rfl rfl rfl ⟨rfl, rfl, rfl, rfl, rfl⟩ rfl rfl rfl rfl rfl (by kernel_rfl) Try.func5 (by kernel_rfl)
    (of_decide_eq_true (by kernel_rfl)) (by unfold Func.isWrapper; first | (rw [if_pos (by decide +kernel)]; kernel_rfl) | (rw [if_neg (by decide +kernel)]; exact ⟨rfl, rfl⟩))
    (fun os started H enc _ => fnSame_lifted os started H enc)
#print axioms fnSame_holds
end Go.Proofs.Ytbchiiggfhdnkaa
