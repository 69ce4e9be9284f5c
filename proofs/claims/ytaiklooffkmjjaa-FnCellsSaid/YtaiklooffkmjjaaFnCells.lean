/- FnCells: for every code, the cell of the drawn instruction with the drawn file is what the model says, and one that the instruction may touch, where it is one. No condition. -/
import Derived.Test.YtaiklooffkmjjaaDCell
import Derived.Test.YtaiklooffkmjjaaCellG
import Derived.Test.YtaiklooffkmjjaaStates
namespace Go.Proofs.Ytaiklooffkmjjaa
open Go.RowKit Go.ChangeShapes Go.WideShapes Go.ChangeAt

/-- The two boxes of the law, and the file's row. -/
structure Fc (w1 : World) (o r a b x n : Int) (A : Option Addr) (c : Nat) (zs : List Int) (w : World) : Prop where
  I : Blk w w1.heap.size 24 #[.int .i64 o, .int .i64 r, .int .i64 a, .int .i64 b, .int .i64 x, .int .i64 n]
  F : Blk w (w1.heap.size + 1) 32 #[.slice A zs.length c]
  row : IntsAt w (Old w1.heap.size) A zs
  below : Below w1.heap.size w1 w
section
variable {w1 w w' : World} {o r a b x n : Int} {A : Option Addr} {c : Nat} {zs : List Int}
theorem Fc.next (h : Fc w1 o r a b x n A c zs w) (hb : Below w.heap.size w w') : Fc w1 o r a b x n A c zs w' :=
  ⟨h.I.below hb h.I.lt, h.F.below hb h.F.lt, h.row.below hb (fun _ k => Nat.lt_of_lt_of_le k h.below.size), below_then h.below hb⟩
theorem Fc.cells (h : Fc w1 o r a b x n A c zs w) : (w.cell? ⟨w1.heap.size, 0, none⟩ = some (.int .i64 o) ∧ w.cell? ⟨w1.heap.size, 1, none⟩ = some (.int .i64 r) ∧ w.cell? ⟨w1.heap.size, 2, none⟩ = some (.int .i64 a) ∧ w.cell? ⟨w1.heap.size, 3, none⟩ = some (.int .i64 b) ∧ w.cell? ⟨w1.heap.size, 4, none⟩ = some (.int .i64 x) ∧ w.cell? ⟨w1.heap.size, 5, none⟩ = some (.int .i64 n)) ∧ w.cell? ⟨w1.heap.size + 1, 0, none⟩ = some (.slice A zs.length c) :=
  ⟨⟨h.I.cell 0, h.I.cell 1, h.I.cell 2, h.I.cell 3, h.I.cell 4, h.I.cell 5⟩, h.F.cell 0⟩
theorem Fc.ints (h : Fc w1 o r a b x n A c zs w) : IntsAt w (Old w.heap.size) A zs := h.row.more (fun _ k => Nat.lt_of_lt_of_le k h.below.size)
theorem Fc.start (hi : IntsAt w1 (Old w1.heap.size) A zs) : Fc w1 o r a b x n A c zs ((w1.alloc (Obj.cells #[.int .i64 o, .int .i64 r, .int .i64 a, .int .i64 b, .int .i64 x, .int .i64 n] 24)).alloc (Obj.cells #[.slice A zs.length c] 32)) := by
  have hF := Blk.new (w1.alloc (Obj.cells #[Value.int .i64 o, Value.int .i64 r, Value.int .i64 a, Value.int .i64 b, Value.int .i64 x, Value.int .i64 n] 24)) 32 #[Value.slice A zs.length c]
  simp only [World.size_alloc] at hF
  exact ⟨(Blk.new w1 _ _).alloc _, hF, hi.below (below2 w1 _ _) (fun _ h => h), below2 w1 _ _⟩
end

set_option maxRecDepth 100000 in
set_option maxHeartbeats 3200000 in
theorem fnCells_walk (A : Option Addr) (n c : Nat) (w : World) (hn : n ≤ c) (ha : BytesAt w (Old w.heap.size) A n) :
    Calls Try.prog 4 #[.slice A n c] w fun e w' => e = .returned (.bool true) ∧ Below w.heap.size w w' := by
  go_enter Try.func4, Try.ntmps4
  go_wp2_with fail
  refine (drawCell_any A n c _ hn ha).mono ?_
  rintro e w1 ⟨⟨o, r, a, b, x, nn⟩, A3, zs, c3, rfl, hs, hzl, hi, hb1⟩
  simp only [InsD.val]
  unfold Small at hs
  simp only at hs
  obtain ⟨a, rfl⟩ := Int.eq_ofNat_of_zero_le hs.2.2.1.1
  have k1 := fun w hS => (cellOf_all o r x nn b a c3 A3 zs w (by omega) hzl hS).1
  have k2 := fun w hS => (cellOf_all o r x nn b a c3 A3 zs w (by omega) hzl hS).2
  have k3 := fun y w => stouch_any o r a b x nn y w (by omega) (by omega)
  have ht := fun h1 h2 => cellV_touch (o := o) (x := x) (n := nn) (y := geti zs a) (len := zs.length) h1 (by omega) (by omega) h2
  generalize cellV o x nn (geti zs a) zs.length = y at *
  replace k1 := hide k1
  replace k2 := hide k2
  have k3 := hide (k3 y)
  have hT : y = -1 ∨ (¬ y = -1 ∧ x < 0) ∨ (¬ y = -1 ∧ ¬ x < 0 ∧ 0 < touchD o x nn y) := by
    by_cases h1 : y = -1
    · exact .inl h1
    · by_cases h2 : x < 0
      · exact .inr (.inl ⟨h1, h2⟩)
      · exact .inr (.inr ⟨h1, h2, ht (by omega) h1⟩)
  clear ht hs hzl
  generalize touchD o x nn y = t at *
  have K := hide (Fc.start (o := o) (r := r) (a := a) (b := b) (x := x) (n := nn) (c := c3) hi)
  clear hi
  rcases hT with rfl | ⟨h7, h8⟩ | ⟨h7, h8, h9⟩
  all_goals
    go_wp2_with fail
    refine (k1.out _ K.out.ints).mono ?_
    rintro e w2 ⟨rfl, hb2⟩
    have K2 := hide (K.out.next hb2)
    obtain ⟨⟨e0, e1, e2, e3, e4, e5⟩, e6⟩ := K2.out.cells
    have hl2 := K2.out.I.lt
    go_wp2_with fail
    refine (k2.out _ K2.out.ints).mono ?_
    rintro e w3 ⟨rfl, hb3⟩
    have K3 := hide (K2.out.next hb3)
    clear e0 e1 e2 e3 e4 e5 e6
    obtain ⟨⟨e0, e1, e2, e3, e4, e5⟩, e6⟩ := K3.out.cells
    go_wp2_with fail
  iterate 2
    · refine (states_any _).mono ?_
      rintro e w4 ⟨rfl, hb4⟩
      go_wp2_with fail
      go_ret
      exact ⟨rfl, below_then (below_then hb1 K3.out.below) hb4⟩
  · refine (k3.out _).mono ?_
    rintro e w4 ⟨rfl, hb4⟩
    go_wp2_with fail
    refine (states_any _).mono ?_
    rintro e w5 ⟨rfl, hb5⟩
    go_wp2_with fail
    go_ret
    exact ⟨rfl, below_then (below_then (below_then hb1 K3.out.below) hb4) hb5⟩

-- LIFT (gen_law.py)
theorem laidOut_fnCells : laidOutB Try.prog = true := by kernel_rfl
theorem own_fnCells : ownKnob Try.prog.godebug = none := by kernel_rfl

set_option maxRecDepth 100000 in
theorem fnCells_lifted (os : Os) (started : os.Started) (H : Type) (enc : TypeId × Value → H) :
    ReturnsInHanded {} Try.checked os 4 .any (Rows.fnCellsSpec.pre6 enc Try.prog Try.f4 [] false) (Rows.fnCellsSpec.post enc Try.prog Try.f4 false true false false) := by
  refine returnsInHanded_of_change (C := Try.checked) own_fnCells started (by kernel_rfl) Try.func4
    (ChangeSpec.witness6 (enc := enc) (C := Try.checked) (os := os) false ⟨#[], #[.slice none 0 0], []⟩ 8 (by kernel_rfl) (by kernel_rfl) (by kernel_rfl) (by kernel_rfl)) ?_
  intro W base args ds gs before hval hW _ _
  have hW' := hW
  obtain ⟨p, q, hA0, hV, rfl, hfz, hnd⟩ := hW
  have hA : DataW.TrodAll enc Try.prog W 0 (fun _ => true) true Try.f4.params.toList args.toList ds p := hA0
  rw [Try.params4] at hA hval
  obtain ⟨v0, d0, rfl, rfl, h0⟩ := trodAll_one hA
  obtain ⟨A, n, c, rfl, hn, ha⟩ := open_code (hval 0 _ v0 rfl rfl) h0
  refine (fnCells_walk A n c W hn ha).mono fun e W' ⟨he, hb⟩ => ⟨_, he, ?_⟩
  refine law_post laidOut_fnCells (fun t ht => ?_) rfl (by kernel_rfl) Try.underlying4 (fun ds hds => ?_) hW' hb
  · rw [Try.params4] at ht
    simp at ht
    subst ht
    exact ⟨by kernel_rfl, of_decide_eq_true (by kernel_rfl)⟩
  · rw [Try.params4] at hds
    match ds, hds with
    | [_], _ => exact ⟨rfl, rfl, rfl⟩

theorem fnCells_holds : Rows.FnCellsSaid :=
  OpenClaim.holds_of_wide 4 Try.f4 rfl rfl rfl rfl rfl rfl rfl ⟨rfl, rfl, rfl, rfl, rfl⟩ rfl rfl rfl rfl rfl (by kernel_rfl) Try.func4 (by kernel_rfl)
    (of_decide_eq_true (by kernel_rfl)) (by unfold Func.isWrapper; first | (rw [if_pos (by decide +kernel)]; kernel_rfl) | (rw [if_neg (by decide +kernel)]; exact ⟨rfl, rfl⟩))
    (fun os started H enc _ => fnCells_lifted os started H enc)
#print axioms fnCells_holds
end Go.Proofs.Ytaiklooffkmjjaa
