/- The last line of spec.l9sums's round: what is compared. The region draws its order; it is walked once. -/
import Derived.Test.YtfnphnjadknoaaaMp0
import Derived.Test.YtfnphnjadknoaaaMp17
import Derived.Test.YtfnphnjadknoaaaMp28
namespace Go.Proofs.Ytfnphnjadknoaaa
open Go.RowKit

section
variable {P : Program} {ops : Array Oper} {Q : Exit → Act → World → Prop} {md : Region.Mode} {S : World → Prop}

theorem s9u {i : Nat} {oi : Oper} {fuel : Nat} {listed : Array Bool} {a : Act} {w : World} (hi : ops[i]? = some oi) (hS : S w)
    (hQ : ∀ c a w, Q (.panic c) (Act.put a oi.dst undef) w → Q (.panic c) a w)
    (h : wpAnyH P md ops Q S fuel (listed.setIfInBounds i true) (a.put oi.dst undef) w)
    (hs : Region.noSelect ops = true := by kernel_rfl) (hf : Region.free md ops listed i = true := by kernel_rfl) (hr : (Region.ready md ops listed).contains i = true := by kernel_rfl)
    (hu : Region.wanted oi (yielded ops a.tmps) = false := by rfl) : wpAnyH P md ops Q S (fuel + 1) listed a w :=
  wpAnyH_take hi hs hf hr hQ (Or.inr ⟨hu, rfl⟩) hS h

theorem s9w {i : Nat} {oi : Oper} {v : Value} {fuel : Nat} {listed : Array Bool} {a : Act} {w : World} (hi : ops[i]? = some oi)
    (hy : ∀ w, S w → (execOp a.eval oi).run P w = .ok (.value v) w) (hS : S w)
    (hQ : ∀ c a w, Q (.panic c) (Act.put a oi.dst v) w → Q (.panic c) a w)
    (h : wpAnyH P md ops Q S fuel (listed.setIfInBounds i true) (a.put oi.dst v) w)
    (hs : Region.noSelect ops = true := by kernel_rfl) (hf : Region.free md ops listed i = true := by kernel_rfl) (hr : (Region.ready md ops listed).contains i = true := by kernel_rfl)
    (hu : Region.wanted oi (yielded ops a.tmps) = true := by rfl) : wpAnyH P md ops Q S (fuel + 1) listed a w :=
  wpAnyH_take hi hs hf hr hQ (Or.inl ⟨hu, hy⟩) hS h
end

set_option maxRecDepth 100000 in
set_option maxHeartbeats 12800000 in
theorem ssum_cmp (q j b2 b3 b4 b5 b6 o2 o3 o4 o5 o6 n2 n3 n4 n5 n6 c2 c3 c4 c5 c6 : Nat) (zL zM zV nl sm val : Int) (r d : Bool) (w : World) (x4 : w.cell? ⟨q, 4, none⟩ = some (.slice (some ⟨b4, o4, none⟩) n4 c4)) (x5 : w.cell? ⟨q, 5, none⟩ = some (.slice (some ⟨b5, o5, none⟩) n5 c5)) (x6 : w.cell? ⟨q, 6, none⟩ = some (.slice (some ⟨b6, o6, none⟩) n6 c6)) (x3 : w.cell? ⟨q, 3, none⟩ = some (.slice (some ⟨b3, o3, none⟩) n3 c3)) (x2 : w.cell? ⟨q, 2, none⟩ = some (.slice (some ⟨b2, o2, none⟩) n2 c2))
    (xL : w.cell? ⟨b4, o4 + j, none⟩ = some (.int .i64 zL)) (xM : w.cell? ⟨b5, o5 + j, none⟩ = some (.int .i64 zM)) (xV : w.cell? ⟨b6, o6 + j, none⟩ = some (.int .i64 zV)) (xd : w.cell? ⟨b3, o3 + j, none⟩ = some (.bool d)) (xr : w.cell? ⟨b2, o2 + j, none⟩ = some (.bool r))
    (m2 : (j : Int) < n2) (m3 : (j : Int) < n3) (m4 : (j : Int) < n4) (m5 : (j : Int) < n5) (m6 : (j : Int) < n6)
    (Q : Exit → Act → World → Prop) (hQ : ∀ c a t v w, Q (.panic c) (Act.put a (some t) v) w → Q (.panic c) a w) (s0 s2 s6 s7 s9 s10 s11 s12 s13 s14 s15 s16 s17 s18 s19 s20 s21 s22 s23 s24 s25 s26 s27 s28 s29 s30 s31 s32 s33 s34 s35 s36 s37 s38 s39 s40 s41 s42 s43 s44 s45 s46 s47 s48 s49 s50 s51 s52 s53 s54 s55 s56 s57 s58 s59 s60 s61 s62 s63 s64 s65 s66 s67 s68 s69 s70 s71 s72 s73 s74 s75 s76 s77 s78 s79 s80 s81 s82 s83 s84 s85 s86 s87 s88 s89 s90 s91 s92 s93 s94 s95 s96 s97 s98 s99 s100 s101 s102 s103 s104 s105 s106 s107 s108 s109 s110 s111 s112 : Value)
    (h : ∀ (res : Bool) (v71 v72 v73 v74 v75 v76 v77 v78 v79 v80 v81 v82 v83 v84 v85 v86 v87 v88 v89 v90 v91 v92 v93 v94 v95 v96 v97 v98 v99 v100 v101 v102 v103 v104 v105 v106 v107 v108 v109 v110 v111 : Value), res = (zL != nl || zM != sm || zV != val || (d != (r && nl == 0))) → Q .normal ⟨#[s0, .pointer (some ⟨q, 0, none⟩), s2, .int .i64 j, .int .i64 nl, .int .i64 sm, s6, s7, .int .i64 val, s9, s10, s11, s12, s13, s14, s15, s16, s17, s18, s19, s20, s21, s22, s23, s24, s25, s26, s27, s28, s29, s30, s31, s32, s33, s34, s35, s36, s37, s38, s39, s40, s41, s42, s43, s44, s45, s46, s47, s48, s49, s50, s51, s52, s53, s54, s55, s56, s57, s58, s59, s60, s61, s62, s63, s64, s65, s66, s67, s68, s69, s70, v71, v72, v73, v74, v75, v76, v77, v78, v79, v80, v81, v82, v83, v84, v85, v86, v87, v88, v89, v90, v91, v92, v93, v94, v95, v96, v97, v98, v99, v100, v101, v102, v103, v104, v105, v106, v107, v108, v109, v110, v111, .bool res], []⟩ w.drew) :
    (Code.region 16 #[{ dst := some 71, op := .fieldAddr 28 (.tmp 1) 4, type := 0, pos := "l09_jobs.go:119", after := #[], guard := none },
      { dst := some 72, op := .load 26 (.tmp 71), type := 26, pos := "l09_jobs.go:119", after := #[⟨0, .data⟩], guard := none },
      { dst := some 73, op := .move (.tmp 3), type := 3, pos := "l09_jobs.go:119", after := #[], guard := none },
      { dst := some 74, op := .indexAddr 26 (.tmp 72) (.tmp 73), type := 0, pos := "l09_jobs.go:119", after := #[⟨1, .data⟩, ⟨2, .data⟩], guard := none },
      { dst := some 75, op := .load 3 (.tmp 74), type := 3, pos := "l09_jobs.go:119", after := #[⟨3, .data⟩], guard := none },
      { dst := some 76, op := .move (.tmp 4), type := 3, pos := "l09_jobs.go:119", after := #[], guard := none },
      { dst := some 77, op := .binOp .neq 3 (.tmp 75) (.tmp 76) 3, type := 4, pos := "l09_jobs.go:119", after := #[⟨4, .data⟩, ⟨5, .data⟩], guard := none },
      { dst := some 78, op := .move (.tmp 77), type := 4, pos := "l09_jobs.go:119", after := #[⟨6, .data⟩], guard := none },
      { dst := some 79, op := .fieldAddr 28 (.tmp 1) 5, type := 0, pos := "l09_jobs.go:119", after := #[⟨7, .guard⟩], guard := some (7, false) },
      { dst := some 80, op := .load 26 (.tmp 79), type := 26, pos := "l09_jobs.go:119", after := #[⟨8, .data⟩, ⟨7, .guard⟩], guard := some (7, false) },
      { dst := some 81, op := .move (.tmp 3), type := 3, pos := "l09_jobs.go:119", after := #[⟨7, .guard⟩], guard := some (7, false) },
      { dst := some 82, op := .indexAddr 26 (.tmp 80) (.tmp 81), type := 0, pos := "l09_jobs.go:119", after := #[⟨9, .data⟩, ⟨10, .data⟩, ⟨7, .guard⟩], guard := some (7, false) },
      { dst := some 83, op := .load 3 (.tmp 82), type := 3, pos := "l09_jobs.go:119", after := #[⟨11, .data⟩, ⟨7, .guard⟩], guard := some (7, false) },
      { dst := some 84, op := .move (.tmp 5), type := 3, pos := "l09_jobs.go:119", after := #[⟨7, .guard⟩], guard := some (7, false) },
      { dst := some 85, op := .binOp .neq 3 (.tmp 83) (.tmp 84) 3, type := 4, pos := "l09_jobs.go:119", after := #[⟨12, .data⟩, ⟨13, .data⟩, ⟨7, .guard⟩], guard := some (7, false) },
      { dst := some 86, op := .pick (.tmp 78) (.const (.bool true)) (.tmp 85), type := 4, pos := "l09_jobs.go:119", after := #[⟨7, .data⟩, ⟨14, .data⟩], guard := none },
      { dst := some 87, op := .move (.tmp 86), type := 4, pos := "l09_jobs.go:119", after := #[⟨15, .data⟩, ⟨7, .chain⟩], guard := none },
      { dst := some 88, op := .fieldAddr 28 (.tmp 1) 6, type := 0, pos := "l09_jobs.go:119", after := #[⟨16, .guard⟩], guard := some (16, false) },
      { dst := some 89, op := .load 26 (.tmp 88), type := 26, pos := "l09_jobs.go:119", after := #[⟨17, .data⟩, ⟨16, .guard⟩], guard := some (16, false) },
      { dst := some 90, op := .move (.tmp 3), type := 3, pos := "l09_jobs.go:119", after := #[⟨16, .guard⟩], guard := some (16, false) },
      { dst := some 91, op := .indexAddr 26 (.tmp 89) (.tmp 90), type := 0, pos := "l09_jobs.go:119", after := #[⟨18, .data⟩, ⟨19, .data⟩, ⟨16, .guard⟩], guard := some (16, false) },
      { dst := some 92, op := .load 3 (.tmp 91), type := 3, pos := "l09_jobs.go:119", after := #[⟨20, .data⟩, ⟨16, .guard⟩], guard := some (16, false) },
      { dst := some 93, op := .move (.tmp 8), type := 3, pos := "l09_jobs.go:119", after := #[⟨16, .guard⟩], guard := some (16, false) },
      { dst := some 94, op := .binOp .neq 3 (.tmp 92) (.tmp 93) 3, type := 4, pos := "l09_jobs.go:119", after := #[⟨21, .data⟩, ⟨22, .data⟩, ⟨16, .guard⟩], guard := some (16, false) },
      { dst := some 95, op := .pick (.tmp 87) (.const (.bool true)) (.tmp 94), type := 4, pos := "l09_jobs.go:119", after := #[⟨16, .data⟩, ⟨23, .data⟩], guard := none },
      { dst := some 96, op := .move (.tmp 95), type := 4, pos := "l09_jobs.go:119", after := #[⟨24, .data⟩, ⟨16, .chain⟩], guard := none },
      { dst := some 97, op := .fieldAddr 28 (.tmp 1) 3, type := 0, pos := "l09_jobs.go:119", after := #[⟨25, .guard⟩], guard := some (25, false) },
      { dst := some 98, op := .load 25 (.tmp 97), type := 25, pos := "l09_jobs.go:119", after := #[⟨26, .data⟩, ⟨25, .guard⟩], guard := some (25, false) },
      { dst := some 99, op := .move (.tmp 3), type := 3, pos := "l09_jobs.go:119", after := #[⟨25, .guard⟩], guard := some (25, false) },
      { dst := some 100, op := .indexAddr 25 (.tmp 98) (.tmp 99), type := 0, pos := "l09_jobs.go:119", after := #[⟨27, .data⟩, ⟨28, .data⟩, ⟨25, .guard⟩], guard := some (25, false) },
      { dst := some 101, op := .load 4 (.tmp 100), type := 4, pos := "l09_jobs.go:119", after := #[⟨29, .data⟩, ⟨25, .guard⟩], guard := some (25, false) },
      { dst := some 102, op := .fieldAddr 28 (.tmp 1) 2, type := 0, pos := "l09_jobs.go:119", after := #[⟨25, .guard⟩], guard := some (25, false) },
      { dst := some 103, op := .load 25 (.tmp 102), type := 25, pos := "l09_jobs.go:119", after := #[⟨31, .data⟩, ⟨25, .guard⟩], guard := some (25, false) },
      { dst := some 104, op := .move (.tmp 3), type := 3, pos := "l09_jobs.go:119", after := #[⟨25, .guard⟩], guard := some (25, false) },
      { dst := some 105, op := .indexAddr 25 (.tmp 103) (.tmp 104), type := 0, pos := "l09_jobs.go:119", after := #[⟨32, .data⟩, ⟨33, .data⟩, ⟨25, .guard⟩], guard := some (25, false) },
      { dst := some 106, op := .load 4 (.tmp 105), type := 4, pos := "l09_jobs.go:119", after := #[⟨34, .data⟩, ⟨25, .guard⟩], guard := some (25, false) },
      { dst := some 107, op := .move (.tmp 106), type := 4, pos := "l09_jobs.go:119", after := #[⟨35, .data⟩, ⟨25, .chain⟩, ⟨25, .guard⟩], guard := some (25, false) },
      { dst := some 108, op := .move (.tmp 4), type := 3, pos := "l09_jobs.go:119", after := #[⟨36, .guard⟩], guard := some (36, true) },
      { dst := some 109, op := .binOp .eql 3 (.tmp 108) (.const (.int .i64 0)) 3, type := 4, pos := "l09_jobs.go:119", after := #[⟨37, .data⟩, ⟨36, .guard⟩], guard := some (36, true) },
      { dst := some 110, op := .pick (.tmp 107) (.tmp 109) (.const (.bool false)), type := 4, pos := "l09_jobs.go:119", after := #[⟨36, .data⟩, ⟨38, .data⟩, ⟨25, .guard⟩], guard := some (25, false) },
      { dst := some 111, op := .binOp .neq 4 (.tmp 101) (.tmp 110) 4, type := 4, pos := "l09_jobs.go:119", after := #[⟨30, .data⟩, ⟨39, .data⟩, ⟨25, .guard⟩], guard := some (25, false) },
      { dst := some 112, op := .pick (.tmp 96) (.const (.bool true)) (.tmp 111), type := 4, pos := "l09_jobs.go:119", after := #[⟨25, .data⟩, ⟨40, .data⟩], guard := none }] true).wp Try.prog Q ⟨#[s0, .pointer (some ⟨q, 0, none⟩), s2, .int .i64 j, .int .i64 nl, .int .i64 sm, s6, s7, .int .i64 val, s9, s10, s11, s12, s13, s14, s15, s16, s17, s18, s19, s20, s21, s22, s23, s24, s25, s26, s27, s28, s29, s30, s31, s32, s33, s34, s35, s36, s37, s38, s39, s40, s41, s42, s43, s44, s45, s46, s47, s48, s49, s50, s51, s52, s53, s54, s55, s56, s57, s58, s59, s60, s61, s62, s63, s64, s65, s66, s67, s68, s69, s70, s71, s72, s73, s74, s75, s76, s77, s78, s79, s80, s81, s82, s83, s84, s85, s86, s87, s88, s89, s90, s91, s92, s93, s94, s95, s96, s97, s98, s99, s100, s101, s102, s103, s104, s105, s106, s107, s108, s109, s110, s111, s112], []⟩ w := by
  refine wp_region_held_drew (S := (fun w' => w'.cell? ⟨q, 4, none⟩ = some (.slice (some ⟨b4, o4, none⟩) n4 c4) ∧ w'.cell? ⟨q, 5, none⟩ = some (.slice (some ⟨b5, o5, none⟩) n5 c5) ∧ w'.cell? ⟨q, 6, none⟩ = some (.slice (some ⟨b6, o6, none⟩) n6 c6) ∧ w'.cell? ⟨q, 3, none⟩ = some (.slice (some ⟨b3, o3, none⟩) n3 c3) ∧ w'.cell? ⟨q, 2, none⟩ = some (.slice (some ⟨b2, o2, none⟩) n2 c2) ∧ w'.cell? ⟨b4, o4 + j, none⟩ = some (.int .i64 zL) ∧ w'.cell? ⟨b5, o5 + j, none⟩ = some (.int .i64 zM) ∧ w'.cell? ⟨b6, o6 + j, none⟩ = some (.int .i64 zV) ∧ w'.cell? ⟨b3, o3 + j, none⟩ = some (.bool d) ∧ w'.cell? ⟨b2, o2 + j, none⟩ = some (.bool r))) (by kernel_rfl) ?_ (fun hHeld => ?_)
  · exact ⟨x4, x5, x6, x3, x2, xL, xM, xV, xd, xr⟩
  clear x2 x3 x4 x5 x6 xL xM xV xd xr
  refine s9w (i := 0) (oi := { dst := some 71, op := .fieldAddr 28 (.tmp 1) 4, type := 0, pos := "l09_jobs.go:119", after := #[], guard := none }) (v := ?_) rfl ?_ hHeld (fun c a w => hQ c a _ _ w) ?_
  rotate_left
  · intro wq hSw; try dsimp only at hSw
    first | (go_simp; done) | (go_simp; with_reducible rfl)
  try simp only [Act.put, qa, qb, qc]
  refine s9w (i := 1) (oi := { dst := some 72, op := .load 26 (.tmp 71), type := 26, pos := "l09_jobs.go:119", after := #[⟨0, .data⟩], guard := none }) (v := ?_) rfl ?_ hHeld (fun c a w => hQ c a _ _ w) ?_
  rotate_left
  · intro wq hSw; try dsimp only at hSw
    first | (go_simp; done) | (go_simp; with_reducible rfl)
  try simp only [Act.put, qa, qb, qc]
  refine s9w (i := 2) (oi := { dst := some 73, op := .move (.tmp 3), type := 3, pos := "l09_jobs.go:119", after := #[], guard := none }) (v := ?_) rfl ?_ hHeld (fun c a w => hQ c a _ _ w) ?_
  rotate_left
  · intro wq hSw; try dsimp only at hSw
    first | (go_simp; done) | (go_simp; with_reducible rfl)
  try simp only [Act.put, qa, qb, qc]
  refine s9w (i := 3) (oi := { dst := some 74, op := .indexAddr 26 (.tmp 72) (.tmp 73), type := 0, pos := "l09_jobs.go:119", after := #[⟨1, .data⟩, ⟨2, .data⟩], guard := none }) (v := ?_) rfl ?_ hHeld (fun c a w => hQ c a _ _ w) ?_
  rotate_left
  · intro wq hSw; try dsimp only at hSw
    first | (go_simp; done) | (go_simp; with_reducible rfl)
  try simp only [Act.put, qa, qb, qc]
  refine s9w (i := 4) (oi := { dst := some 75, op := .load 3 (.tmp 74), type := 3, pos := "l09_jobs.go:119", after := #[⟨3, .data⟩], guard := none }) (v := ?_) rfl ?_ hHeld (fun c a w => hQ c a _ _ w) ?_
  rotate_left
  · intro wq hSw; try dsimp only at hSw
    first | (go_simp; done) | (go_simp; with_reducible rfl)
  try simp only [Act.put, qa, qb, qc]
  refine s9w (i := 5) (oi := { dst := some 76, op := .move (.tmp 4), type := 3, pos := "l09_jobs.go:119", after := #[], guard := none }) (v := ?_) rfl ?_ hHeld (fun c a w => hQ c a _ _ w) ?_
  rotate_left
  · intro wq hSw; try dsimp only at hSw
    first | (go_simp; done) | (go_simp; with_reducible rfl)
  try simp only [Act.put, qa, qb, qc]
  cases hc_c1 : (zL != nl)
  · skip
    refine s9w (i := 6) (oi := { dst := some 77, op := .binOp .neq 3 (.tmp 75) (.tmp 76) 3, type := 4, pos := "l09_jobs.go:119", after := #[⟨4, .data⟩, ⟨5, .data⟩], guard := none }) (v := ?_) rfl ?_ hHeld (fun c a w => hQ c a _ _ w) ?_
    rotate_left
    · intro wq hSw; try dsimp only at hSw
      first | (go_simp; done) | (go_simp; with_reducible rfl)
    try simp only [Act.put, qa, qb, qc]
    refine s9w (i := 7) (oi := { dst := some 78, op := .move (.tmp 77), type := 4, pos := "l09_jobs.go:119", after := #[⟨6, .data⟩], guard := none }) (v := ?_) rfl ?_ hHeld (fun c a w => hQ c a _ _ w) ?_
    rotate_left
    · intro wq hSw; try dsimp only at hSw
      first | (go_simp; done) | (go_simp; with_reducible rfl)
    try simp only [Act.put, qa, qb, qc]
    refine s9w (i := 8) (oi := { dst := some 79, op := .fieldAddr 28 (.tmp 1) 5, type := 0, pos := "l09_jobs.go:119", after := #[⟨7, .guard⟩], guard := some (7, false) }) (v := ?_) rfl ?_ hHeld (fun c a w => hQ c a _ _ w) ?_
    rotate_left
    · intro wq hSw; try dsimp only at hSw
      first | (go_simp; done) | (go_simp; with_reducible rfl)
    try simp only [Act.put, qa, qb, qc]
    refine s9w (i := 9) (oi := { dst := some 80, op := .load 26 (.tmp 79), type := 26, pos := "l09_jobs.go:119", after := #[⟨8, .data⟩, ⟨7, .guard⟩], guard := some (7, false) }) (v := ?_) rfl ?_ hHeld (fun c a w => hQ c a _ _ w) ?_
    rotate_left
    · intro wq hSw; try dsimp only at hSw
      first | (go_simp; done) | (go_simp; with_reducible rfl)
    try simp only [Act.put, qa, qb, qc]
    refine s9w (i := 10) (oi := { dst := some 81, op := .move (.tmp 3), type := 3, pos := "l09_jobs.go:119", after := #[⟨7, .guard⟩], guard := some (7, false) }) (v := ?_) rfl ?_ hHeld (fun c a w => hQ c a _ _ w) ?_
    rotate_left
    · intro wq hSw; try dsimp only at hSw
      first | (go_simp; done) | (go_simp; with_reducible rfl)
    try simp only [Act.put, qa, qb, qc]
    refine s9w (i := 11) (oi := { dst := some 82, op := .indexAddr 26 (.tmp 80) (.tmp 81), type := 0, pos := "l09_jobs.go:119", after := #[⟨9, .data⟩, ⟨10, .data⟩, ⟨7, .guard⟩], guard := some (7, false) }) (v := ?_) rfl ?_ hHeld (fun c a w => hQ c a _ _ w) ?_
    rotate_left
    · intro wq hSw; try dsimp only at hSw
      first | (go_simp; done) | (go_simp; with_reducible rfl)
    try simp only [Act.put, qa, qb, qc]
    refine s9w (i := 12) (oi := { dst := some 83, op := .load 3 (.tmp 82), type := 3, pos := "l09_jobs.go:119", after := #[⟨11, .data⟩, ⟨7, .guard⟩], guard := some (7, false) }) (v := ?_) rfl ?_ hHeld (fun c a w => hQ c a _ _ w) ?_
    rotate_left
    · intro wq hSw; try dsimp only at hSw
      first | (go_simp; done) | (go_simp; with_reducible rfl)
    try simp only [Act.put, qa, qb, qc]
    refine s9w (i := 13) (oi := { dst := some 84, op := .move (.tmp 5), type := 3, pos := "l09_jobs.go:119", after := #[⟨7, .guard⟩], guard := some (7, false) }) (v := ?_) rfl ?_ hHeld (fun c a w => hQ c a _ _ w) ?_
    rotate_left
    · intro wq hSw; try dsimp only at hSw
      first | (go_simp; done) | (go_simp; with_reducible rfl)
    try simp only [Act.put, qa, qb, qc]
    cases hc_c2 : (zM != sm)
    · skip
      refine s9w (i := 14) (oi := { dst := some 85, op := .binOp .neq 3 (.tmp 83) (.tmp 84) 3, type := 4, pos := "l09_jobs.go:119", after := #[⟨12, .data⟩, ⟨13, .data⟩, ⟨7, .guard⟩], guard := some (7, false) }) (v := ?_) rfl ?_ hHeld (fun c a w => hQ c a _ _ w) ?_
      rotate_left
      · intro wq hSw; try dsimp only at hSw
        first | (go_simp; done) | (go_simp; with_reducible rfl)
      try simp only [Act.put, qa, qb, qc]
      refine s9w (i := 15) (oi := { dst := some 86, op := .pick (.tmp 78) (.const (.bool true)) (.tmp 85), type := 4, pos := "l09_jobs.go:119", after := #[⟨7, .data⟩, ⟨14, .data⟩], guard := none }) (v := ?_) rfl ?_ hHeld (fun c a w => hQ c a _ _ w) ?_
      rotate_left
      · intro wq hSw; try dsimp only at hSw
        first | (go_simp; done) | (go_simp; with_reducible rfl)
      try simp only [Act.put, qa, qb, qc]
      refine s9w (i := 16) (oi := { dst := some 87, op := .move (.tmp 86), type := 4, pos := "l09_jobs.go:119", after := #[⟨15, .data⟩, ⟨7, .chain⟩], guard := none }) (v := ?_) rfl ?_ hHeld (fun c a w => hQ c a _ _ w) ?_
      rotate_left
      · intro wq hSw; try dsimp only at hSw
        first | (go_simp; done) | (go_simp; with_reducible rfl)
      try simp only [Act.put, qa, qb, qc]
      refine s9w (i := 17) (oi := { dst := some 88, op := .fieldAddr 28 (.tmp 1) 6, type := 0, pos := "l09_jobs.go:119", after := #[⟨16, .guard⟩], guard := some (16, false) }) (v := ?_) rfl ?_ hHeld (fun c a w => hQ c a _ _ w) ?_
      rotate_left
      · intro wq hSw; try dsimp only at hSw
        first | (go_simp; done) | (go_simp; with_reducible rfl)
      try simp only [Act.put, qa, qb, qc]
      refine s9w (i := 18) (oi := { dst := some 89, op := .load 26 (.tmp 88), type := 26, pos := "l09_jobs.go:119", after := #[⟨17, .data⟩, ⟨16, .guard⟩], guard := some (16, false) }) (v := ?_) rfl ?_ hHeld (fun c a w => hQ c a _ _ w) ?_
      rotate_left
      · intro wq hSw; try dsimp only at hSw
        first | (go_simp; done) | (go_simp; with_reducible rfl)
      try simp only [Act.put, qa, qb, qc]
      refine s9w (i := 19) (oi := { dst := some 90, op := .move (.tmp 3), type := 3, pos := "l09_jobs.go:119", after := #[⟨16, .guard⟩], guard := some (16, false) }) (v := ?_) rfl ?_ hHeld (fun c a w => hQ c a _ _ w) ?_
      rotate_left
      · intro wq hSw; try dsimp only at hSw
        first | (go_simp; done) | (go_simp; with_reducible rfl)
      try simp only [Act.put, qa, qb, qc]
      refine s9w (i := 20) (oi := { dst := some 91, op := .indexAddr 26 (.tmp 89) (.tmp 90), type := 0, pos := "l09_jobs.go:119", after := #[⟨18, .data⟩, ⟨19, .data⟩, ⟨16, .guard⟩], guard := some (16, false) }) (v := ?_) rfl ?_ hHeld (fun c a w => hQ c a _ _ w) ?_
      rotate_left
      · intro wq hSw; try dsimp only at hSw
        first | (go_simp; done) | (go_simp; with_reducible rfl)
      try simp only [Act.put, qa, qb, qc]
      refine s9w (i := 21) (oi := { dst := some 92, op := .load 3 (.tmp 91), type := 3, pos := "l09_jobs.go:119", after := #[⟨20, .data⟩, ⟨16, .guard⟩], guard := some (16, false) }) (v := ?_) rfl ?_ hHeld (fun c a w => hQ c a _ _ w) ?_
      rotate_left
      · intro wq hSw; try dsimp only at hSw
        first | (go_simp; done) | (go_simp; with_reducible rfl)
      try simp only [Act.put, qa, qb, qc]
      refine s9w (i := 22) (oi := { dst := some 93, op := .move (.tmp 8), type := 3, pos := "l09_jobs.go:119", after := #[⟨16, .guard⟩], guard := some (16, false) }) (v := ?_) rfl ?_ hHeld (fun c a w => hQ c a _ _ w) ?_
      rotate_left
      · intro wq hSw; try dsimp only at hSw
        first | (go_simp; done) | (go_simp; with_reducible rfl)
      try simp only [Act.put, qa, qb, qc]
      cases hc_c3 : (zV != val)
      · skip
        refine s9w (i := 23) (oi := { dst := some 94, op := .binOp .neq 3 (.tmp 92) (.tmp 93) 3, type := 4, pos := "l09_jobs.go:119", after := #[⟨21, .data⟩, ⟨22, .data⟩, ⟨16, .guard⟩], guard := some (16, false) }) (v := ?_) rfl ?_ hHeld (fun c a w => hQ c a _ _ w) ?_
        rotate_left
        · intro wq hSw; try dsimp only at hSw
          first | (go_simp; done) | (go_simp; with_reducible rfl)
        try simp only [Act.put, qa, qb, qc]
        refine s9w (i := 24) (oi := { dst := some 95, op := .pick (.tmp 87) (.const (.bool true)) (.tmp 94), type := 4, pos := "l09_jobs.go:119", after := #[⟨16, .data⟩, ⟨23, .data⟩], guard := none }) (v := ?_) rfl ?_ hHeld (fun c a w => hQ c a _ _ w) ?_
        rotate_left
        · intro wq hSw; try dsimp only at hSw
          first | (go_simp; done) | (go_simp; with_reducible rfl)
        try simp only [Act.put, qa, qb, qc]
        refine s9w (i := 25) (oi := { dst := some 96, op := .move (.tmp 95), type := 4, pos := "l09_jobs.go:119", after := #[⟨24, .data⟩, ⟨16, .chain⟩], guard := none }) (v := ?_) rfl ?_ hHeld (fun c a w => hQ c a _ _ w) ?_
        rotate_left
        · intro wq hSw; try dsimp only at hSw
          first | (go_simp; done) | (go_simp; with_reducible rfl)
        try simp only [Act.put, qa, qb, qc]
        refine s9w (i := 26) (oi := { dst := some 97, op := .fieldAddr 28 (.tmp 1) 3, type := 0, pos := "l09_jobs.go:119", after := #[⟨25, .guard⟩], guard := some (25, false) }) (v := ?_) rfl ?_ hHeld (fun c a w => hQ c a _ _ w) ?_
        rotate_left
        · intro wq hSw; try dsimp only at hSw
          first | (go_simp; done) | (go_simp; with_reducible rfl)
        try simp only [Act.put, qa, qb, qc]
        refine s9w (i := 27) (oi := { dst := some 98, op := .load 25 (.tmp 97), type := 25, pos := "l09_jobs.go:119", after := #[⟨26, .data⟩, ⟨25, .guard⟩], guard := some (25, false) }) (v := ?_) rfl ?_ hHeld (fun c a w => hQ c a _ _ w) ?_
        rotate_left
        · intro wq hSw; try dsimp only at hSw
          first | (go_simp; done) | (go_simp; with_reducible rfl)
        try simp only [Act.put, qa, qb, qc]
        refine s9w (i := 28) (oi := { dst := some 99, op := .move (.tmp 3), type := 3, pos := "l09_jobs.go:119", after := #[⟨25, .guard⟩], guard := some (25, false) }) (v := ?_) rfl ?_ hHeld (fun c a w => hQ c a _ _ w) ?_
        rotate_left
        · intro wq hSw; try dsimp only at hSw
          first | (go_simp; done) | (go_simp; with_reducible rfl)
        try simp only [Act.put, qa, qb, qc]
        refine s9w (i := 29) (oi := { dst := some 100, op := .indexAddr 25 (.tmp 98) (.tmp 99), type := 0, pos := "l09_jobs.go:119", after := #[⟨27, .data⟩, ⟨28, .data⟩, ⟨25, .guard⟩], guard := some (25, false) }) (v := ?_) rfl ?_ hHeld (fun c a w => hQ c a _ _ w) ?_
        rotate_left
        · intro wq hSw; try dsimp only at hSw
          first | (go_simp; done) | (go_simp; with_reducible rfl)
        try simp only [Act.put, qa, qb, qc]
        refine s9w (i := 30) (oi := { dst := some 101, op := .load 4 (.tmp 100), type := 4, pos := "l09_jobs.go:119", after := #[⟨29, .data⟩, ⟨25, .guard⟩], guard := some (25, false) }) (v := ?_) rfl ?_ hHeld (fun c a w => hQ c a _ _ w) ?_
        rotate_left
        · intro wq hSw; try dsimp only at hSw
          first | (go_simp; done) | (go_simp; with_reducible rfl)
        try simp only [Act.put, qa, qb, qc]
        refine s9w (i := 31) (oi := { dst := some 102, op := .fieldAddr 28 (.tmp 1) 2, type := 0, pos := "l09_jobs.go:119", after := #[⟨25, .guard⟩], guard := some (25, false) }) (v := ?_) rfl ?_ hHeld (fun c a w => hQ c a _ _ w) ?_
        rotate_left
        · intro wq hSw; try dsimp only at hSw
          first | (go_simp; done) | (go_simp; with_reducible rfl)
        try simp only [Act.put, qa, qb, qc]
        refine s9w (i := 32) (oi := { dst := some 103, op := .load 25 (.tmp 102), type := 25, pos := "l09_jobs.go:119", after := #[⟨31, .data⟩, ⟨25, .guard⟩], guard := some (25, false) }) (v := ?_) rfl ?_ hHeld (fun c a w => hQ c a _ _ w) ?_
        rotate_left
        · intro wq hSw; try dsimp only at hSw
          first | (go_simp; done) | (go_simp; with_reducible rfl)
        try simp only [Act.put, qa, qb, qc]
        refine s9w (i := 33) (oi := { dst := some 104, op := .move (.tmp 3), type := 3, pos := "l09_jobs.go:119", after := #[⟨25, .guard⟩], guard := some (25, false) }) (v := ?_) rfl ?_ hHeld (fun c a w => hQ c a _ _ w) ?_
        rotate_left
        · intro wq hSw; try dsimp only at hSw
          first | (go_simp; done) | (go_simp; with_reducible rfl)
        try simp only [Act.put, qa, qb, qc]
        refine s9w (i := 34) (oi := { dst := some 105, op := .indexAddr 25 (.tmp 103) (.tmp 104), type := 0, pos := "l09_jobs.go:119", after := #[⟨32, .data⟩, ⟨33, .data⟩, ⟨25, .guard⟩], guard := some (25, false) }) (v := ?_) rfl ?_ hHeld (fun c a w => hQ c a _ _ w) ?_
        rotate_left
        · intro wq hSw; try dsimp only at hSw
          first | (go_simp; done) | (go_simp; with_reducible rfl)
        try simp only [Act.put, qa, qb, qc]
        cases r
        · skip
          refine s9w (i := 35) (oi := { dst := some 106, op := .load 4 (.tmp 105), type := 4, pos := "l09_jobs.go:119", after := #[⟨34, .data⟩, ⟨25, .guard⟩], guard := some (25, false) }) (v := ?_) rfl ?_ hHeld (fun c a w => hQ c a _ _ w) ?_
          rotate_left
          · intro wq hSw; try dsimp only at hSw
            first | (go_simp; done) | (go_simp; with_reducible rfl)
          try simp only [Act.put, qa, qb, qc]
          refine s9w (i := 36) (oi := { dst := some 107, op := .move (.tmp 106), type := 4, pos := "l09_jobs.go:119", after := #[⟨35, .data⟩, ⟨25, .chain⟩, ⟨25, .guard⟩], guard := some (25, false) }) (v := ?_) rfl ?_ hHeld (fun c a w => hQ c a _ _ w) ?_
          rotate_left
          · intro wq hSw; try dsimp only at hSw
            first | (go_simp; done) | (go_simp; with_reducible rfl)
          try simp only [Act.put, qa, qb, qc]
          refine s9u (i := 37) (oi := { dst := some 108, op := .move (.tmp 4), type := 3, pos := "l09_jobs.go:119", after := #[⟨36, .guard⟩], guard := some (36, true) }) rfl hHeld (fun c a w => hQ c a _ _ w) ?_
          try simp only [Act.put, qa, qb, qc]
          refine s9u (i := 38) (oi := { dst := some 109, op := .binOp .eql 3 (.tmp 108) (.const (.int .i64 0)) 3, type := 4, pos := "l09_jobs.go:119", after := #[⟨37, .data⟩, ⟨36, .guard⟩], guard := some (36, true) }) rfl hHeld (fun c a w => hQ c a _ _ w) ?_
          try simp only [Act.put, qa, qb, qc]
          refine s9w (i := 39) (oi := { dst := some 110, op := .pick (.tmp 107) (.tmp 109) (.const (.bool false)), type := 4, pos := "l09_jobs.go:119", after := #[⟨36, .data⟩, ⟨38, .data⟩, ⟨25, .guard⟩], guard := some (25, false) }) (v := ?_) rfl ?_ hHeld (fun c a w => hQ c a _ _ w) ?_
          rotate_left
          · intro wq hSw; try dsimp only at hSw
            first | (go_simp; done) | (go_simp; with_reducible rfl)
          try simp only [Act.put, qa, qb, qc]
          refine s9w (i := 40) (oi := { dst := some 111, op := .binOp .neq 4 (.tmp 101) (.tmp 110) 4, type := 4, pos := "l09_jobs.go:119", after := #[⟨30, .data⟩, ⟨39, .data⟩, ⟨25, .guard⟩], guard := some (25, false) }) (v := ?_) rfl ?_ hHeld (fun c a w => hQ c a _ _ w) ?_
          rotate_left
          · intro wq hSw; try dsimp only at hSw
            first | (go_simp; done) | (go_simp; with_reducible rfl)
          try simp only [Act.put, qa, qb, qc]
          refine s9w (i := 41) (oi := { dst := some 112, op := .pick (.tmp 96) (.const (.bool true)) (.tmp 111), type := 4, pos := "l09_jobs.go:119", after := #[⟨25, .data⟩, ⟨40, .data⟩], guard := none }) (v := ?_) rfl ?_ hHeld (fun c a w => hQ c a _ _ w) ?_
          rotate_left
          · intro wq hSw; try dsimp only at hSw
            first | (go_simp; done) | (go_simp; with_reducible rfl)
          try simp only [Act.put, qa, qb, qc]
          refine wpAnyH_done (by kernel_rfl) ?_ _
          refine h _ _ _ _ _ _ _ _ _ _ _ _ _ _ _ _ _ _ _ _ _ _ _ _ _ _ _ _ _ _ _ _ _ _ _ _ _ _ _ _ _ _ ?_
          simp [hc_c1, hc_c2, hc_c3]
        · skip
          refine s9w (i := 35) (oi := { dst := some 106, op := .load 4 (.tmp 105), type := 4, pos := "l09_jobs.go:119", after := #[⟨34, .data⟩, ⟨25, .guard⟩], guard := some (25, false) }) (v := ?_) rfl ?_ hHeld (fun c a w => hQ c a _ _ w) ?_
          rotate_left
          · intro wq hSw; try dsimp only at hSw
            first | (go_simp; done) | (go_simp; with_reducible rfl)
          try simp only [Act.put, qa, qb, qc]
          refine s9w (i := 36) (oi := { dst := some 107, op := .move (.tmp 106), type := 4, pos := "l09_jobs.go:119", after := #[⟨35, .data⟩, ⟨25, .chain⟩, ⟨25, .guard⟩], guard := some (25, false) }) (v := ?_) rfl ?_ hHeld (fun c a w => hQ c a _ _ w) ?_
          rotate_left
          · intro wq hSw; try dsimp only at hSw
            first | (go_simp; done) | (go_simp; with_reducible rfl)
          try simp only [Act.put, qa, qb, qc]
          refine s9w (i := 37) (oi := { dst := some 108, op := .move (.tmp 4), type := 3, pos := "l09_jobs.go:119", after := #[⟨36, .guard⟩], guard := some (36, true) }) (v := ?_) rfl ?_ hHeld (fun c a w => hQ c a _ _ w) ?_
          rotate_left
          · intro wq hSw; try dsimp only at hSw
            first | (go_simp; done) | (go_simp; with_reducible rfl)
          try simp only [Act.put, qa, qb, qc]
          refine s9w (i := 38) (oi := { dst := some 109, op := .binOp .eql 3 (.tmp 108) (.const (.int .i64 0)) 3, type := 4, pos := "l09_jobs.go:119", after := #[⟨37, .data⟩, ⟨36, .guard⟩], guard := some (36, true) }) (v := ?_) rfl ?_ hHeld (fun c a w => hQ c a _ _ w) ?_
          rotate_left
          · intro wq hSw; try dsimp only at hSw
            first | (go_simp; done) | (go_simp; with_reducible rfl)
          try simp only [Act.put, qa, qb, qc]
          refine s9w (i := 39) (oi := { dst := some 110, op := .pick (.tmp 107) (.tmp 109) (.const (.bool false)), type := 4, pos := "l09_jobs.go:119", after := #[⟨36, .data⟩, ⟨38, .data⟩, ⟨25, .guard⟩], guard := some (25, false) }) (v := ?_) rfl ?_ hHeld (fun c a w => hQ c a _ _ w) ?_
          rotate_left
          · intro wq hSw; try dsimp only at hSw
            first | (go_simp; done) | (go_simp; with_reducible rfl)
          try simp only [Act.put, qa, qb, qc]
          refine s9w (i := 40) (oi := { dst := some 111, op := .binOp .neq 4 (.tmp 101) (.tmp 110) 4, type := 4, pos := "l09_jobs.go:119", after := #[⟨30, .data⟩, ⟨39, .data⟩, ⟨25, .guard⟩], guard := some (25, false) }) (v := ?_) rfl ?_ hHeld (fun c a w => hQ c a _ _ w) ?_
          rotate_left
          · intro wq hSw; try dsimp only at hSw
            first | (go_simp; done) | (go_simp; with_reducible rfl)
          try simp only [Act.put, qa, qb, qc]
          refine s9w (i := 41) (oi := { dst := some 112, op := .pick (.tmp 96) (.const (.bool true)) (.tmp 111), type := 4, pos := "l09_jobs.go:119", after := #[⟨25, .data⟩, ⟨40, .data⟩], guard := none }) (v := ?_) rfl ?_ hHeld (fun c a w => hQ c a _ _ w) ?_
          rotate_left
          · intro wq hSw; try dsimp only at hSw
            first | (go_simp; done) | (go_simp; with_reducible rfl)
          try simp only [Act.put, qa, qb, qc]
          refine wpAnyH_done (by kernel_rfl) ?_ _
          refine h _ _ _ _ _ _ _ _ _ _ _ _ _ _ _ _ _ _ _ _ _ _ _ _ _ _ _ _ _ _ _ _ _ _ _ _ _ _ _ _ _ _ ?_
          simp [hc_c1, hc_c2, hc_c3]
          cases d <;> cases (nl == 0) <;> rfl
      · skip
        refine s9w (i := 23) (oi := { dst := some 94, op := .binOp .neq 3 (.tmp 92) (.tmp 93) 3, type := 4, pos := "l09_jobs.go:119", after := #[⟨21, .data⟩, ⟨22, .data⟩, ⟨16, .guard⟩], guard := some (16, false) }) (v := ?_) rfl ?_ hHeld (fun c a w => hQ c a _ _ w) ?_
        rotate_left
        · intro wq hSw; try dsimp only at hSw
          first | (go_simp; done) | (go_simp; with_reducible rfl)
        try simp only [Act.put, qa, qb, qc]
        refine s9w (i := 24) (oi := { dst := some 95, op := .pick (.tmp 87) (.const (.bool true)) (.tmp 94), type := 4, pos := "l09_jobs.go:119", after := #[⟨16, .data⟩, ⟨23, .data⟩], guard := none }) (v := ?_) rfl ?_ hHeld (fun c a w => hQ c a _ _ w) ?_
        rotate_left
        · intro wq hSw; try dsimp only at hSw
          first | (go_simp; done) | (go_simp; with_reducible rfl)
        try simp only [Act.put, qa, qb, qc]
        refine s9w (i := 25) (oi := { dst := some 96, op := .move (.tmp 95), type := 4, pos := "l09_jobs.go:119", after := #[⟨24, .data⟩, ⟨16, .chain⟩], guard := none }) (v := ?_) rfl ?_ hHeld (fun c a w => hQ c a _ _ w) ?_
        rotate_left
        · intro wq hSw; try dsimp only at hSw
          first | (go_simp; done) | (go_simp; with_reducible rfl)
        try simp only [Act.put, qa, qb, qc]
        refine s9u (i := 26) (oi := { dst := some 97, op := .fieldAddr 28 (.tmp 1) 3, type := 0, pos := "l09_jobs.go:119", after := #[⟨25, .guard⟩], guard := some (25, false) }) rfl hHeld (fun c a w => hQ c a _ _ w) ?_
        try simp only [Act.put, qa, qb, qc]
        refine s9u (i := 27) (oi := { dst := some 98, op := .load 25 (.tmp 97), type := 25, pos := "l09_jobs.go:119", after := #[⟨26, .data⟩, ⟨25, .guard⟩], guard := some (25, false) }) rfl hHeld (fun c a w => hQ c a _ _ w) ?_
        try simp only [Act.put, qa, qb, qc]
        refine s9u (i := 28) (oi := { dst := some 99, op := .move (.tmp 3), type := 3, pos := "l09_jobs.go:119", after := #[⟨25, .guard⟩], guard := some (25, false) }) rfl hHeld (fun c a w => hQ c a _ _ w) ?_
        try simp only [Act.put, qa, qb, qc]
        refine s9u (i := 29) (oi := { dst := some 100, op := .indexAddr 25 (.tmp 98) (.tmp 99), type := 0, pos := "l09_jobs.go:119", after := #[⟨27, .data⟩, ⟨28, .data⟩, ⟨25, .guard⟩], guard := some (25, false) }) rfl hHeld (fun c a w => hQ c a _ _ w) ?_
        try simp only [Act.put, qa, qb, qc]
        refine s9u (i := 30) (oi := { dst := some 101, op := .load 4 (.tmp 100), type := 4, pos := "l09_jobs.go:119", after := #[⟨29, .data⟩, ⟨25, .guard⟩], guard := some (25, false) }) rfl hHeld (fun c a w => hQ c a _ _ w) ?_
        try simp only [Act.put, qa, qb, qc]
        refine s9u (i := 31) (oi := { dst := some 102, op := .fieldAddr 28 (.tmp 1) 2, type := 0, pos := "l09_jobs.go:119", after := #[⟨25, .guard⟩], guard := some (25, false) }) rfl hHeld (fun c a w => hQ c a _ _ w) ?_
        try simp only [Act.put, qa, qb, qc]
        refine s9u (i := 32) (oi := { dst := some 103, op := .load 25 (.tmp 102), type := 25, pos := "l09_jobs.go:119", after := #[⟨31, .data⟩, ⟨25, .guard⟩], guard := some (25, false) }) rfl hHeld (fun c a w => hQ c a _ _ w) ?_
        try simp only [Act.put, qa, qb, qc]
        refine s9u (i := 33) (oi := { dst := some 104, op := .move (.tmp 3), type := 3, pos := "l09_jobs.go:119", after := #[⟨25, .guard⟩], guard := some (25, false) }) rfl hHeld (fun c a w => hQ c a _ _ w) ?_
        try simp only [Act.put, qa, qb, qc]
        refine s9u (i := 34) (oi := { dst := some 105, op := .indexAddr 25 (.tmp 103) (.tmp 104), type := 0, pos := "l09_jobs.go:119", after := #[⟨32, .data⟩, ⟨33, .data⟩, ⟨25, .guard⟩], guard := some (25, false) }) rfl hHeld (fun c a w => hQ c a _ _ w) ?_
        try simp only [Act.put, qa, qb, qc]
        refine s9u (i := 35) (oi := { dst := some 106, op := .load 4 (.tmp 105), type := 4, pos := "l09_jobs.go:119", after := #[⟨34, .data⟩, ⟨25, .guard⟩], guard := some (25, false) }) rfl hHeld (fun c a w => hQ c a _ _ w) ?_
        try simp only [Act.put, qa, qb, qc]
        refine s9u (i := 36) (oi := { dst := some 107, op := .move (.tmp 106), type := 4, pos := "l09_jobs.go:119", after := #[⟨35, .data⟩, ⟨25, .chain⟩, ⟨25, .guard⟩], guard := some (25, false) }) rfl hHeld (fun c a w => hQ c a _ _ w) ?_
        try simp only [Act.put, qa, qb, qc]
        refine s9u (i := 37) (oi := { dst := some 108, op := .move (.tmp 4), type := 3, pos := "l09_jobs.go:119", after := #[⟨36, .guard⟩], guard := some (36, true) }) rfl hHeld (fun c a w => hQ c a _ _ w) ?_
        try simp only [Act.put, qa, qb, qc]
        refine s9u (i := 38) (oi := { dst := some 109, op := .binOp .eql 3 (.tmp 108) (.const (.int .i64 0)) 3, type := 4, pos := "l09_jobs.go:119", after := #[⟨37, .data⟩, ⟨36, .guard⟩], guard := some (36, true) }) rfl hHeld (fun c a w => hQ c a _ _ w) ?_
        try simp only [Act.put, qa, qb, qc]
        refine s9u (i := 39) (oi := { dst := some 110, op := .pick (.tmp 107) (.tmp 109) (.const (.bool false)), type := 4, pos := "l09_jobs.go:119", after := #[⟨36, .data⟩, ⟨38, .data⟩, ⟨25, .guard⟩], guard := some (25, false) }) rfl hHeld (fun c a w => hQ c a _ _ w) ?_
        try simp only [Act.put, qa, qb, qc]
        refine s9u (i := 40) (oi := { dst := some 111, op := .binOp .neq 4 (.tmp 101) (.tmp 110) 4, type := 4, pos := "l09_jobs.go:119", after := #[⟨30, .data⟩, ⟨39, .data⟩, ⟨25, .guard⟩], guard := some (25, false) }) rfl hHeld (fun c a w => hQ c a _ _ w) ?_
        try simp only [Act.put, qa, qb, qc]
        refine s9w (i := 41) (oi := { dst := some 112, op := .pick (.tmp 96) (.const (.bool true)) (.tmp 111), type := 4, pos := "l09_jobs.go:119", after := #[⟨25, .data⟩, ⟨40, .data⟩], guard := none }) (v := ?_) rfl ?_ hHeld (fun c a w => hQ c a _ _ w) ?_
        rotate_left
        · intro wq hSw; try dsimp only at hSw
          first | (go_simp; done) | (go_simp; with_reducible rfl)
        try simp only [Act.put, qa, qb, qc]
        refine wpAnyH_done (by kernel_rfl) ?_ _
        refine h _ _ _ _ _ _ _ _ _ _ _ _ _ _ _ _ _ _ _ _ _ _ _ _ _ _ _ _ _ _ _ _ _ _ _ _ _ _ _ _ _ _ ?_
        simp [hc_c1, hc_c2, hc_c3]
    · skip
      refine s9w (i := 14) (oi := { dst := some 85, op := .binOp .neq 3 (.tmp 83) (.tmp 84) 3, type := 4, pos := "l09_jobs.go:119", after := #[⟨12, .data⟩, ⟨13, .data⟩, ⟨7, .guard⟩], guard := some (7, false) }) (v := ?_) rfl ?_ hHeld (fun c a w => hQ c a _ _ w) ?_
      rotate_left
      · intro wq hSw; try dsimp only at hSw
        first | (go_simp; done) | (go_simp; with_reducible rfl)
      try simp only [Act.put, qa, qb, qc]
      refine s9w (i := 15) (oi := { dst := some 86, op := .pick (.tmp 78) (.const (.bool true)) (.tmp 85), type := 4, pos := "l09_jobs.go:119", after := #[⟨7, .data⟩, ⟨14, .data⟩], guard := none }) (v := ?_) rfl ?_ hHeld (fun c a w => hQ c a _ _ w) ?_
      rotate_left
      · intro wq hSw; try dsimp only at hSw
        first | (go_simp; done) | (go_simp; with_reducible rfl)
      try simp only [Act.put, qa, qb, qc]
      refine s9w (i := 16) (oi := { dst := some 87, op := .move (.tmp 86), type := 4, pos := "l09_jobs.go:119", after := #[⟨15, .data⟩, ⟨7, .chain⟩], guard := none }) (v := ?_) rfl ?_ hHeld (fun c a w => hQ c a _ _ w) ?_
      rotate_left
      · intro wq hSw; try dsimp only at hSw
        first | (go_simp; done) | (go_simp; with_reducible rfl)
      try simp only [Act.put, qa, qb, qc]
      refine s9u (i := 17) (oi := { dst := some 88, op := .fieldAddr 28 (.tmp 1) 6, type := 0, pos := "l09_jobs.go:119", after := #[⟨16, .guard⟩], guard := some (16, false) }) rfl hHeld (fun c a w => hQ c a _ _ w) ?_
      try simp only [Act.put, qa, qb, qc]
      refine s9u (i := 18) (oi := { dst := some 89, op := .load 26 (.tmp 88), type := 26, pos := "l09_jobs.go:119", after := #[⟨17, .data⟩, ⟨16, .guard⟩], guard := some (16, false) }) rfl hHeld (fun c a w => hQ c a _ _ w) ?_
      try simp only [Act.put, qa, qb, qc]
      refine s9u (i := 19) (oi := { dst := some 90, op := .move (.tmp 3), type := 3, pos := "l09_jobs.go:119", after := #[⟨16, .guard⟩], guard := some (16, false) }) rfl hHeld (fun c a w => hQ c a _ _ w) ?_
      try simp only [Act.put, qa, qb, qc]
      refine s9u (i := 20) (oi := { dst := some 91, op := .indexAddr 26 (.tmp 89) (.tmp 90), type := 0, pos := "l09_jobs.go:119", after := #[⟨18, .data⟩, ⟨19, .data⟩, ⟨16, .guard⟩], guard := some (16, false) }) rfl hHeld (fun c a w => hQ c a _ _ w) ?_
      try simp only [Act.put, qa, qb, qc]
      refine s9u (i := 21) (oi := { dst := some 92, op := .load 3 (.tmp 91), type := 3, pos := "l09_jobs.go:119", after := #[⟨20, .data⟩, ⟨16, .guard⟩], guard := some (16, false) }) rfl hHeld (fun c a w => hQ c a _ _ w) ?_
      try simp only [Act.put, qa, qb, qc]
      refine s9u (i := 22) (oi := { dst := some 93, op := .move (.tmp 8), type := 3, pos := "l09_jobs.go:119", after := #[⟨16, .guard⟩], guard := some (16, false) }) rfl hHeld (fun c a w => hQ c a _ _ w) ?_
      try simp only [Act.put, qa, qb, qc]
      refine s9u (i := 23) (oi := { dst := some 94, op := .binOp .neq 3 (.tmp 92) (.tmp 93) 3, type := 4, pos := "l09_jobs.go:119", after := #[⟨21, .data⟩, ⟨22, .data⟩, ⟨16, .guard⟩], guard := some (16, false) }) rfl hHeld (fun c a w => hQ c a _ _ w) ?_
      try simp only [Act.put, qa, qb, qc]
      refine s9w (i := 24) (oi := { dst := some 95, op := .pick (.tmp 87) (.const (.bool true)) (.tmp 94), type := 4, pos := "l09_jobs.go:119", after := #[⟨16, .data⟩, ⟨23, .data⟩], guard := none }) (v := ?_) rfl ?_ hHeld (fun c a w => hQ c a _ _ w) ?_
      rotate_left
      · intro wq hSw; try dsimp only at hSw
        first | (go_simp; done) | (go_simp; with_reducible rfl)
      try simp only [Act.put, qa, qb, qc]
      refine s9w (i := 25) (oi := { dst := some 96, op := .move (.tmp 95), type := 4, pos := "l09_jobs.go:119", after := #[⟨24, .data⟩, ⟨16, .chain⟩], guard := none }) (v := ?_) rfl ?_ hHeld (fun c a w => hQ c a _ _ w) ?_
      rotate_left
      · intro wq hSw; try dsimp only at hSw
        first | (go_simp; done) | (go_simp; with_reducible rfl)
      try simp only [Act.put, qa, qb, qc]
      refine s9u (i := 26) (oi := { dst := some 97, op := .fieldAddr 28 (.tmp 1) 3, type := 0, pos := "l09_jobs.go:119", after := #[⟨25, .guard⟩], guard := some (25, false) }) rfl hHeld (fun c a w => hQ c a _ _ w) ?_
      try simp only [Act.put, qa, qb, qc]
      refine s9u (i := 27) (oi := { dst := some 98, op := .load 25 (.tmp 97), type := 25, pos := "l09_jobs.go:119", after := #[⟨26, .data⟩, ⟨25, .guard⟩], guard := some (25, false) }) rfl hHeld (fun c a w => hQ c a _ _ w) ?_
      try simp only [Act.put, qa, qb, qc]
      refine s9u (i := 28) (oi := { dst := some 99, op := .move (.tmp 3), type := 3, pos := "l09_jobs.go:119", after := #[⟨25, .guard⟩], guard := some (25, false) }) rfl hHeld (fun c a w => hQ c a _ _ w) ?_
      try simp only [Act.put, qa, qb, qc]
      refine s9u (i := 29) (oi := { dst := some 100, op := .indexAddr 25 (.tmp 98) (.tmp 99), type := 0, pos := "l09_jobs.go:119", after := #[⟨27, .data⟩, ⟨28, .data⟩, ⟨25, .guard⟩], guard := some (25, false) }) rfl hHeld (fun c a w => hQ c a _ _ w) ?_
      try simp only [Act.put, qa, qb, qc]
      refine s9u (i := 30) (oi := { dst := some 101, op := .load 4 (.tmp 100), type := 4, pos := "l09_jobs.go:119", after := #[⟨29, .data⟩, ⟨25, .guard⟩], guard := some (25, false) }) rfl hHeld (fun c a w => hQ c a _ _ w) ?_
      try simp only [Act.put, qa, qb, qc]
      refine s9u (i := 31) (oi := { dst := some 102, op := .fieldAddr 28 (.tmp 1) 2, type := 0, pos := "l09_jobs.go:119", after := #[⟨25, .guard⟩], guard := some (25, false) }) rfl hHeld (fun c a w => hQ c a _ _ w) ?_
      try simp only [Act.put, qa, qb, qc]
      refine s9u (i := 32) (oi := { dst := some 103, op := .load 25 (.tmp 102), type := 25, pos := "l09_jobs.go:119", after := #[⟨31, .data⟩, ⟨25, .guard⟩], guard := some (25, false) }) rfl hHeld (fun c a w => hQ c a _ _ w) ?_
      try simp only [Act.put, qa, qb, qc]
      refine s9u (i := 33) (oi := { dst := some 104, op := .move (.tmp 3), type := 3, pos := "l09_jobs.go:119", after := #[⟨25, .guard⟩], guard := some (25, false) }) rfl hHeld (fun c a w => hQ c a _ _ w) ?_
      try simp only [Act.put, qa, qb, qc]
      refine s9u (i := 34) (oi := { dst := some 105, op := .indexAddr 25 (.tmp 103) (.tmp 104), type := 0, pos := "l09_jobs.go:119", after := #[⟨32, .data⟩, ⟨33, .data⟩, ⟨25, .guard⟩], guard := some (25, false) }) rfl hHeld (fun c a w => hQ c a _ _ w) ?_
      try simp only [Act.put, qa, qb, qc]
      refine s9u (i := 35) (oi := { dst := some 106, op := .load 4 (.tmp 105), type := 4, pos := "l09_jobs.go:119", after := #[⟨34, .data⟩, ⟨25, .guard⟩], guard := some (25, false) }) rfl hHeld (fun c a w => hQ c a _ _ w) ?_
      try simp only [Act.put, qa, qb, qc]
      refine s9u (i := 36) (oi := { dst := some 107, op := .move (.tmp 106), type := 4, pos := "l09_jobs.go:119", after := #[⟨35, .data⟩, ⟨25, .chain⟩, ⟨25, .guard⟩], guard := some (25, false) }) rfl hHeld (fun c a w => hQ c a _ _ w) ?_
      try simp only [Act.put, qa, qb, qc]
      refine s9u (i := 37) (oi := { dst := some 108, op := .move (.tmp 4), type := 3, pos := "l09_jobs.go:119", after := #[⟨36, .guard⟩], guard := some (36, true) }) rfl hHeld (fun c a w => hQ c a _ _ w) ?_
      try simp only [Act.put, qa, qb, qc]
      refine s9u (i := 38) (oi := { dst := some 109, op := .binOp .eql 3 (.tmp 108) (.const (.int .i64 0)) 3, type := 4, pos := "l09_jobs.go:119", after := #[⟨37, .data⟩, ⟨36, .guard⟩], guard := some (36, true) }) rfl hHeld (fun c a w => hQ c a _ _ w) ?_
      try simp only [Act.put, qa, qb, qc]
      refine s9u (i := 39) (oi := { dst := some 110, op := .pick (.tmp 107) (.tmp 109) (.const (.bool false)), type := 4, pos := "l09_jobs.go:119", after := #[⟨36, .data⟩, ⟨38, .data⟩, ⟨25, .guard⟩], guard := some (25, false) }) rfl hHeld (fun c a w => hQ c a _ _ w) ?_
      try simp only [Act.put, qa, qb, qc]
      refine s9u (i := 40) (oi := { dst := some 111, op := .binOp .neq 4 (.tmp 101) (.tmp 110) 4, type := 4, pos := "l09_jobs.go:119", after := #[⟨30, .data⟩, ⟨39, .data⟩, ⟨25, .guard⟩], guard := some (25, false) }) rfl hHeld (fun c a w => hQ c a _ _ w) ?_
      try simp only [Act.put, qa, qb, qc]
      refine s9w (i := 41) (oi := { dst := some 112, op := .pick (.tmp 96) (.const (.bool true)) (.tmp 111), type := 4, pos := "l09_jobs.go:119", after := #[⟨25, .data⟩, ⟨40, .data⟩], guard := none }) (v := ?_) rfl ?_ hHeld (fun c a w => hQ c a _ _ w) ?_
      rotate_left
      · intro wq hSw; try dsimp only at hSw
        first | (go_simp; done) | (go_simp; with_reducible rfl)
      try simp only [Act.put, qa, qb, qc]
      refine wpAnyH_done (by kernel_rfl) ?_ _
      refine h _ _ _ _ _ _ _ _ _ _ _ _ _ _ _ _ _ _ _ _ _ _ _ _ _ _ _ _ _ _ _ _ _ _ _ _ _ _ _ _ _ _ ?_
      simp [hc_c1, hc_c2]
  · skip
    refine s9w (i := 6) (oi := { dst := some 77, op := .binOp .neq 3 (.tmp 75) (.tmp 76) 3, type := 4, pos := "l09_jobs.go:119", after := #[⟨4, .data⟩, ⟨5, .data⟩], guard := none }) (v := ?_) rfl ?_ hHeld (fun c a w => hQ c a _ _ w) ?_
    rotate_left
    · intro wq hSw; try dsimp only at hSw
      first | (go_simp; done) | (go_simp; with_reducible rfl)
    try simp only [Act.put, qa, qb, qc]
    refine s9w (i := 7) (oi := { dst := some 78, op := .move (.tmp 77), type := 4, pos := "l09_jobs.go:119", after := #[⟨6, .data⟩], guard := none }) (v := ?_) rfl ?_ hHeld (fun c a w => hQ c a _ _ w) ?_
    rotate_left
    · intro wq hSw; try dsimp only at hSw
      first | (go_simp; done) | (go_simp; with_reducible rfl)
    try simp only [Act.put, qa, qb, qc]
    refine s9u (i := 8) (oi := { dst := some 79, op := .fieldAddr 28 (.tmp 1) 5, type := 0, pos := "l09_jobs.go:119", after := #[⟨7, .guard⟩], guard := some (7, false) }) rfl hHeld (fun c a w => hQ c a _ _ w) ?_
    try simp only [Act.put, qa, qb, qc]
    refine s9u (i := 9) (oi := { dst := some 80, op := .load 26 (.tmp 79), type := 26, pos := "l09_jobs.go:119", after := #[⟨8, .data⟩, ⟨7, .guard⟩], guard := some (7, false) }) rfl hHeld (fun c a w => hQ c a _ _ w) ?_
    try simp only [Act.put, qa, qb, qc]
    refine s9u (i := 10) (oi := { dst := some 81, op := .move (.tmp 3), type := 3, pos := "l09_jobs.go:119", after := #[⟨7, .guard⟩], guard := some (7, false) }) rfl hHeld (fun c a w => hQ c a _ _ w) ?_
    try simp only [Act.put, qa, qb, qc]
    refine s9u (i := 11) (oi := { dst := some 82, op := .indexAddr 26 (.tmp 80) (.tmp 81), type := 0, pos := "l09_jobs.go:119", after := #[⟨9, .data⟩, ⟨10, .data⟩, ⟨7, .guard⟩], guard := some (7, false) }) rfl hHeld (fun c a w => hQ c a _ _ w) ?_
    try simp only [Act.put, qa, qb, qc]
    refine s9u (i := 12) (oi := { dst := some 83, op := .load 3 (.tmp 82), type := 3, pos := "l09_jobs.go:119", after := #[⟨11, .data⟩, ⟨7, .guard⟩], guard := some (7, false) }) rfl hHeld (fun c a w => hQ c a _ _ w) ?_
    try simp only [Act.put, qa, qb, qc]
    refine s9u (i := 13) (oi := { dst := some 84, op := .move (.tmp 5), type := 3, pos := "l09_jobs.go:119", after := #[⟨7, .guard⟩], guard := some (7, false) }) rfl hHeld (fun c a w => hQ c a _ _ w) ?_
    try simp only [Act.put, qa, qb, qc]
    refine s9u (i := 14) (oi := { dst := some 85, op := .binOp .neq 3 (.tmp 83) (.tmp 84) 3, type := 4, pos := "l09_jobs.go:119", after := #[⟨12, .data⟩, ⟨13, .data⟩, ⟨7, .guard⟩], guard := some (7, false) }) rfl hHeld (fun c a w => hQ c a _ _ w) ?_
    try simp only [Act.put, qa, qb, qc]
    refine s9w (i := 15) (oi := { dst := some 86, op := .pick (.tmp 78) (.const (.bool true)) (.tmp 85), type := 4, pos := "l09_jobs.go:119", after := #[⟨7, .data⟩, ⟨14, .data⟩], guard := none }) (v := ?_) rfl ?_ hHeld (fun c a w => hQ c a _ _ w) ?_
    rotate_left
    · intro wq hSw; try dsimp only at hSw
      first | (go_simp; done) | (go_simp; with_reducible rfl)
    try simp only [Act.put, qa, qb, qc]
    refine s9w (i := 16) (oi := { dst := some 87, op := .move (.tmp 86), type := 4, pos := "l09_jobs.go:119", after := #[⟨15, .data⟩, ⟨7, .chain⟩], guard := none }) (v := ?_) rfl ?_ hHeld (fun c a w => hQ c a _ _ w) ?_
    rotate_left
    · intro wq hSw; try dsimp only at hSw
      first | (go_simp; done) | (go_simp; with_reducible rfl)
    try simp only [Act.put, qa, qb, qc]
    refine s9u (i := 17) (oi := { dst := some 88, op := .fieldAddr 28 (.tmp 1) 6, type := 0, pos := "l09_jobs.go:119", after := #[⟨16, .guard⟩], guard := some (16, false) }) rfl hHeld (fun c a w => hQ c a _ _ w) ?_
    try simp only [Act.put, qa, qb, qc]
    refine s9u (i := 18) (oi := { dst := some 89, op := .load 26 (.tmp 88), type := 26, pos := "l09_jobs.go:119", after := #[⟨17, .data⟩, ⟨16, .guard⟩], guard := some (16, false) }) rfl hHeld (fun c a w => hQ c a _ _ w) ?_
    try simp only [Act.put, qa, qb, qc]
    refine s9u (i := 19) (oi := { dst := some 90, op := .move (.tmp 3), type := 3, pos := "l09_jobs.go:119", after := #[⟨16, .guard⟩], guard := some (16, false) }) rfl hHeld (fun c a w => hQ c a _ _ w) ?_
    try simp only [Act.put, qa, qb, qc]
    refine s9u (i := 20) (oi := { dst := some 91, op := .indexAddr 26 (.tmp 89) (.tmp 90), type := 0, pos := "l09_jobs.go:119", after := #[⟨18, .data⟩, ⟨19, .data⟩, ⟨16, .guard⟩], guard := some (16, false) }) rfl hHeld (fun c a w => hQ c a _ _ w) ?_
    try simp only [Act.put, qa, qb, qc]
    refine s9u (i := 21) (oi := { dst := some 92, op := .load 3 (.tmp 91), type := 3, pos := "l09_jobs.go:119", after := #[⟨20, .data⟩, ⟨16, .guard⟩], guard := some (16, false) }) rfl hHeld (fun c a w => hQ c a _ _ w) ?_
    try simp only [Act.put, qa, qb, qc]
    refine s9u (i := 22) (oi := { dst := some 93, op := .move (.tmp 8), type := 3, pos := "l09_jobs.go:119", after := #[⟨16, .guard⟩], guard := some (16, false) }) rfl hHeld (fun c a w => hQ c a _ _ w) ?_
    try simp only [Act.put, qa, qb, qc]
    refine s9u (i := 23) (oi := { dst := some 94, op := .binOp .neq 3 (.tmp 92) (.tmp 93) 3, type := 4, pos := "l09_jobs.go:119", after := #[⟨21, .data⟩, ⟨22, .data⟩, ⟨16, .guard⟩], guard := some (16, false) }) rfl hHeld (fun c a w => hQ c a _ _ w) ?_
    try simp only [Act.put, qa, qb, qc]
    refine s9w (i := 24) (oi := { dst := some 95, op := .pick (.tmp 87) (.const (.bool true)) (.tmp 94), type := 4, pos := "l09_jobs.go:119", after := #[⟨16, .data⟩, ⟨23, .data⟩], guard := none }) (v := ?_) rfl ?_ hHeld (fun c a w => hQ c a _ _ w) ?_
    rotate_left
    · intro wq hSw; try dsimp only at hSw
      first | (go_simp; done) | (go_simp; with_reducible rfl)
    try simp only [Act.put, qa, qb, qc]
    refine s9w (i := 25) (oi := { dst := some 96, op := .move (.tmp 95), type := 4, pos := "l09_jobs.go:119", after := #[⟨24, .data⟩, ⟨16, .chain⟩], guard := none }) (v := ?_) rfl ?_ hHeld (fun c a w => hQ c a _ _ w) ?_
    rotate_left
    · intro wq hSw; try dsimp only at hSw
      first | (go_simp; done) | (go_simp; with_reducible rfl)
    try simp only [Act.put, qa, qb, qc]
    refine s9u (i := 26) (oi := { dst := some 97, op := .fieldAddr 28 (.tmp 1) 3, type := 0, pos := "l09_jobs.go:119", after := #[⟨25, .guard⟩], guard := some (25, false) }) rfl hHeld (fun c a w => hQ c a _ _ w) ?_
    try simp only [Act.put, qa, qb, qc]
    refine s9u (i := 27) (oi := { dst := some 98, op := .load 25 (.tmp 97), type := 25, pos := "l09_jobs.go:119", after := #[⟨26, .data⟩, ⟨25, .guard⟩], guard := some (25, false) }) rfl hHeld (fun c a w => hQ c a _ _ w) ?_
    try simp only [Act.put, qa, qb, qc]
    refine s9u (i := 28) (oi := { dst := some 99, op := .move (.tmp 3), type := 3, pos := "l09_jobs.go:119", after := #[⟨25, .guard⟩], guard := some (25, false) }) rfl hHeld (fun c a w => hQ c a _ _ w) ?_
    try simp only [Act.put, qa, qb, qc]
    refine s9u (i := 29) (oi := { dst := some 100, op := .indexAddr 25 (.tmp 98) (.tmp 99), type := 0, pos := "l09_jobs.go:119", after := #[⟨27, .data⟩, ⟨28, .data⟩, ⟨25, .guard⟩], guard := some (25, false) }) rfl hHeld (fun c a w => hQ c a _ _ w) ?_
    try simp only [Act.put, qa, qb, qc]
    refine s9u (i := 30) (oi := { dst := some 101, op := .load 4 (.tmp 100), type := 4, pos := "l09_jobs.go:119", after := #[⟨29, .data⟩, ⟨25, .guard⟩], guard := some (25, false) }) rfl hHeld (fun c a w => hQ c a _ _ w) ?_
    try simp only [Act.put, qa, qb, qc]
    refine s9u (i := 31) (oi := { dst := some 102, op := .fieldAddr 28 (.tmp 1) 2, type := 0, pos := "l09_jobs.go:119", after := #[⟨25, .guard⟩], guard := some (25, false) }) rfl hHeld (fun c a w => hQ c a _ _ w) ?_
    try simp only [Act.put, qa, qb, qc]
    refine s9u (i := 32) (oi := { dst := some 103, op := .load 25 (.tmp 102), type := 25, pos := "l09_jobs.go:119", after := #[⟨31, .data⟩, ⟨25, .guard⟩], guard := some (25, false) }) rfl hHeld (fun c a w => hQ c a _ _ w) ?_
    try simp only [Act.put, qa, qb, qc]
    refine s9u (i := 33) (oi := { dst := some 104, op := .move (.tmp 3), type := 3, pos := "l09_jobs.go:119", after := #[⟨25, .guard⟩], guard := some (25, false) }) rfl hHeld (fun c a w => hQ c a _ _ w) ?_
    try simp only [Act.put, qa, qb, qc]
    refine s9u (i := 34) (oi := { dst := some 105, op := .indexAddr 25 (.tmp 103) (.tmp 104), type := 0, pos := "l09_jobs.go:119", after := #[⟨32, .data⟩, ⟨33, .data⟩, ⟨25, .guard⟩], guard := some (25, false) }) rfl hHeld (fun c a w => hQ c a _ _ w) ?_
    try simp only [Act.put, qa, qb, qc]
    refine s9u (i := 35) (oi := { dst := some 106, op := .load 4 (.tmp 105), type := 4, pos := "l09_jobs.go:119", after := #[⟨34, .data⟩, ⟨25, .guard⟩], guard := some (25, false) }) rfl hHeld (fun c a w => hQ c a _ _ w) ?_
    try simp only [Act.put, qa, qb, qc]
    refine s9u (i := 36) (oi := { dst := some 107, op := .move (.tmp 106), type := 4, pos := "l09_jobs.go:119", after := #[⟨35, .data⟩, ⟨25, .chain⟩, ⟨25, .guard⟩], guard := some (25, false) }) rfl hHeld (fun c a w => hQ c a _ _ w) ?_
    try simp only [Act.put, qa, qb, qc]
    refine s9u (i := 37) (oi := { dst := some 108, op := .move (.tmp 4), type := 3, pos := "l09_jobs.go:119", after := #[⟨36, .guard⟩], guard := some (36, true) }) rfl hHeld (fun c a w => hQ c a _ _ w) ?_
    try simp only [Act.put, qa, qb, qc]
    refine s9u (i := 38) (oi := { dst := some 109, op := .binOp .eql 3 (.tmp 108) (.const (.int .i64 0)) 3, type := 4, pos := "l09_jobs.go:119", after := #[⟨37, .data⟩, ⟨36, .guard⟩], guard := some (36, true) }) rfl hHeld (fun c a w => hQ c a _ _ w) ?_
    try simp only [Act.put, qa, qb, qc]
    refine s9u (i := 39) (oi := { dst := some 110, op := .pick (.tmp 107) (.tmp 109) (.const (.bool false)), type := 4, pos := "l09_jobs.go:119", after := #[⟨36, .data⟩, ⟨38, .data⟩, ⟨25, .guard⟩], guard := some (25, false) }) rfl hHeld (fun c a w => hQ c a _ _ w) ?_
    try simp only [Act.put, qa, qb, qc]
    refine s9u (i := 40) (oi := { dst := some 111, op := .binOp .neq 4 (.tmp 101) (.tmp 110) 4, type := 4, pos := "l09_jobs.go:119", after := #[⟨30, .data⟩, ⟨39, .data⟩, ⟨25, .guard⟩], guard := some (25, false) }) rfl hHeld (fun c a w => hQ c a _ _ w) ?_
    try simp only [Act.put, qa, qb, qc]
    refine s9w (i := 41) (oi := { dst := some 112, op := .pick (.tmp 96) (.const (.bool true)) (.tmp 111), type := 4, pos := "l09_jobs.go:119", after := #[⟨25, .data⟩, ⟨40, .data⟩], guard := none }) (v := ?_) rfl ?_ hHeld (fun c a w => hQ c a _ _ w) ?_
    rotate_left
    · intro wq hSw; try dsimp only at hSw
      first | (go_simp; done) | (go_simp; with_reducible rfl)
    try simp only [Act.put, qa, qb, qc]
    refine wpAnyH_done (by kernel_rfl) ?_ _
    refine h _ _ _ _ _ _ _ _ _ _ _ _ _ _ _ _ _ _ _ _ _ _ _ _ _ _ _ _ _ _ _ _ _ _ _ _ _ _ _ _ _ _ ?_
    simp [hc_c1]
end Go.Proofs.Ytfnphnjadknoaaa
