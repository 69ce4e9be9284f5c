/- viewState.findOwners: any histories. -/
import Derived.Test.YtfkaacfeikmabaaMf0
import Derived.Test.YtfkaacfeikmabaaMf17
namespace Go.Proofs.Ytfkaacfeikmabaa
open Go.RowKit

def foI (n1 : Nat) (nx : Int) (hs : List (List PostD)) : Option (List Int) := if nx < 0 ∨ 1000 < nx ∨ hs.length ≠ n1 then none else ownAll nx.toNat hs hs.length
def FoR (n1 : Nat) (nx : Int) (hs : List (List PostD)) (w w' : World) (e : Ending) : Prop := ((foI n1 nx hs = none ∧ e = .returned (.tuple #[.slice none 0 0, .bool false])) ∨ ∃ os q c, foI n1 nx hs = some os ∧ e = .returned (.tuple #[.slice (some ⟨q, 0, none⟩) os.length c, .bool true]) ∧ IntsAt w' (New w.heap.size w'.heap.size) (some ⟨q, 0, none⟩) os) ∧ Below w.heap.size w w'
theorem only_lo {g B : Nat} {a b : World} (h : Only g a b) (hg : B ≤ g) (hB : B ≤ a.heap.size) : Below B a b := ⟨h.os, h.tape, h.output, h.size, fun k hk => h.block k (by omega) (by omega)⟩
def OsAt (w : World) (q m : Nat) (os : List Int) : Prop := ∃ cs, Blk w q 3 cs ∧ cs.size = m ∧ os.length = m ∧ ∀ i, i < m → cs[i]? = some (.int .i64 (geti os i))
theorem OsAt.alloc {w : World} {q m : Nat} {os : List Int} (h : OsAt w q m os) (o : Obj) : OsAt (w.alloc o) q m os := by
  obtain ⟨cs, h1, h2⟩ := h; exact ⟨cs, h1.alloc o, h2⟩
theorem OsAt.set {w : World} {q m : Nat} {os : List Int} (h : OsAt w q m os) {k : Nat} (hk : k < m) (v : Int) : OsAt (w.setCell ⟨q, k, none⟩ (.int .i64 v)) q m (os.set k v) := by
  obtain ⟨cs, h1, h2, h3, h4⟩ := h
  refine ⟨cs.setIfInBounds k (.int .i64 v), h1.set_ _ _, by simpa using h2, by simpa using h3, fun i hi => ?_⟩
  rw [geti_set' (by omega), Array.getElem?_setIfInBounds]
  by_cases e : i = k
  · subst e; rw [if_pos rfl, if_pos rfl, if_pos (by omega)]
  · rw [if_neg (fun h => e h.symm), if_neg e]; exact h4 i hi
theorem OsAt.cell {w : World} {q m : Nat} {os : List Int} (h : OsAt w q m os) {k : Nat} (hk : k < m) : w.cell? ⟨q, k, none⟩ = some (.int .i64 (geti os k)) ∧ w.frozen? ⟨q, k, none⟩ = false ∧ q < w.heap.size := by
  obtain ⟨cs, h1, h2, h3, h4⟩ := h
  exact ⟨(h1.cell k).trans (h4 k hk), h1.frozen k, h1.lt⟩
theorem OsAt.ints {w : World} {q m : Nat} {os : List Int} (h : OsAt w q m os) (hm : m ≤ 1000) {S : Nat → Prop} (hS : S q) : IntsAt w S (some ⟨q, 0, none⟩) os := by
  refine ⟨by have := h.choose_spec.2.2.1; omega, fun _ => ⟨q, 0, rfl, hS, fun k hk => ?_⟩⟩
  rw [Nat.zero_add]
  exact (h.cell (by have := h.choose_spec.2.2.1; omega)).1
theorem make_owners (n : Nat) (hn : n ≤ 1048576) (W : World) : (Instr.makeSlice 201 (.int .i64 (n : Int)) (.int .i64 (n : Int))).run Try.prog W = .ok (.slice (some ⟨W.heap.size, 0, none⟩) n n) (W.alloc (.cells (zrow #[.int .i64 0] n) 3)) :=
  run_make_row' (P := Try.prog) 201 3 (.int .i64 0) 8 Try.underlying201 Try.infoInt rfl .i64 .i64 n (by omega) (by omega) W

set_option maxRecDepth 100000 in
set_option maxHeartbeats 12800000 in
theorem findOwners_any (A1 A2 A3 A4 A5 A6 A7 : Option Addr) (n1 n2 n3 n4 n6 n7 c1 c2 c3 c4 c5 c6 c7 : Nat) (nx : Int) (hs : List (List PostD)) (S : Nat → Prop) (w : World) (hS : ∀ b, S b → b < w.heap.size) (hh : HistsAt w S A5 hs) :
    Calls Try.prog 163 #[.agg #[.slice A1 n1 c1, .slice A2 n2 c2, .slice A3 n3 c3, .slice A4 n4 c4, .slice A5 hs.length c5, .slice A6 n6 c6, .slice A7 n7 c7, .int .i64 nx]] w fun e w' => FoR n1 nx hs w w' e := by
  have hn := hh.1
  replace hh := hide hh
  have K0 := hide (Blk.new w 144 #[.slice A1 n1 c1, .slice A2 n2 c2, .slice A3 n3 c3, .slice A4 n4 c4, .slice A5 hs.length c5, .slice A6 n6 c6, .slice A7 n7 c7, .int .i64 nx])
  have hb0 := hide (below1 w (Obj.cells #[.slice A1 n1 c1, .slice A2 n2 c2, .slice A3 n3 c3, .slice A4 n4 c4, .slice A5 hs.length c5, .slice A6 n6 c6, .slice A7 n7 c7, .int .i64 nx] 144))
  go_enter Try.func163, Try.ntmps163
  go_wp2_with fail
  obtain ⟨wq, hwq⟩ : ∃ wq, wq = w.alloc (Obj.cells #[.slice A1 n1 c1, .slice A2 n2 c2, .slice A3 n3 c3, .slice A4 n4 c4, .slice A5 hs.length c5, .slice A6 n6 c6, .slice A7 n7 c7, .int .i64 nx] 144) := ⟨_, rfl⟩
  rw [← hwq] at K0 hb0 ⊢
  clear hwq
  have H0 : Hid (Blk wq.drew w.heap.size 144 #[.slice A1 n1 c1, .slice A2 n2 c2, .slice A3 n3 c3, .slice A4 n4 c4, .slice A5 hs.length c5, .slice A6 n6 c6, .slice A7 n7 c7, .int .i64 nx]) := K0.out
  replace hb0 := hide hb0.out.drew
  clear K0
  by_cases h0 : nx < 0
  · have hE := hide (show foI n1 nx hs = none from if_pos (.inl h0))
    refine wp_region_held_drew (S := (fun w' => w'.cell? ⟨w.heap.size, 0, none⟩ = some (.slice A1 n1 c1) ∧ w'.cell? ⟨w.heap.size, 1, none⟩ = some (.slice A2 n2 c2) ∧ w'.cell? ⟨w.heap.size, 2, none⟩ = some (.slice A3 n3 c3) ∧ w'.cell? ⟨w.heap.size, 3, none⟩ = some (.slice A4 n4 c4) ∧ w'.cell? ⟨w.heap.size, 4, none⟩ = some (.slice A5 hs.length c5) ∧ w'.cell? ⟨w.heap.size, 5, none⟩ = some (.slice A6 n6 c6) ∧ w'.cell? ⟨w.heap.size, 6, none⟩ = some (.slice A7 n7 c7) ∧ w'.cell? ⟨w.heap.size, 7, none⟩ = some (.int .i64 nx))) (by kernel_rfl) ?_ (fun hHeld => ?_)
    · exact vs8 H0.out
    refine wpAnyH_take (i := 0) (oi := { dst := some 10, op := Op.fieldAddr 144 (Operand.tmp 1) 4, type := 0, pos := "l02_state.go:264", after := #[], guard := none }) (v := ?_) rfl (by kernel_rfl) (by kernel_rfl) (by kernel_rfl) (fun _ _ _ h => h) (Or.inl ⟨by rfl, ?_⟩) hHeld ?_
    rotate_left
    · (intro wq hSw; (try dsimp only at hSw); first | (go_simp; done) | (go_simp; with_reducible rfl))
    try simp only [Act.put, qa, qb, qc]
    refine wpAnyH_take (i := 1) (oi := { dst := some 11, op := Op.load 3 (Operand.tmp 10), type := 3, pos := "l02_state.go:264", after := #[{ on := 0, ground := Ground.data }], guard := none }) (v := ?_) rfl (by kernel_rfl) (by kernel_rfl) (by kernel_rfl) (fun _ _ _ h => h) (Or.inl ⟨by rfl, ?_⟩) hHeld ?_
    rotate_left
    · (intro wq hSw; (try dsimp only at hSw); first | (go_simp; done) | (go_simp; with_reducible rfl))
    try simp only [Act.put, qa, qb, qc]
    refine wpAnyH_take (i := 2) (oi := { dst := some 12, op := Op.binOp BinOp.lss 3 (Operand.tmp 11) (Operand.const (Value.int IntKind.i64 0)) 3, type := 4, pos := "l02_state.go:264", after := #[{ on := 1, ground := Ground.data }], guard := none }) (v := ?_) rfl (by kernel_rfl) (by kernel_rfl) (by kernel_rfl) (fun _ _ _ h => h) (Or.inl ⟨by rfl, ?_⟩) hHeld ?_
    rotate_left
    · (intro wq hSw; (try dsimp only at hSw); first | (go_simp; done) | (go_simp; with_reducible rfl))
    try simp only [Act.put, qa, qb, qc]
    refine wpAnyH_take (i := 3) (oi := { dst := some 13, op := Op.move (Operand.tmp 12), type := 4, pos := "l02_state.go:264", after := #[{ on := 2, ground := Ground.data }], guard := none }) (v := ?_) rfl (by kernel_rfl) (by kernel_rfl) (by kernel_rfl) (fun _ _ _ h => h) (Or.inl ⟨by rfl, ?_⟩) hHeld ?_
    rotate_left
    · (intro wq hSw; (try dsimp only at hSw); first | (go_simp; done) | (go_simp; with_reducible rfl))
    try simp only [Act.put, qa, qb, qc]
    refine wpAnyH_take (i := 4) (oi := { dst := some 14, op := Op.fieldAddr 144 (Operand.tmp 1) 4, type := 0, pos := "l02_state.go:264", after := #[{ on := 3, ground := Ground.guard }], guard := some (3, false) }) (v := undef) rfl (by kernel_rfl) (by kernel_rfl) (by kernel_rfl) (fun _ _ _ h => h) (Or.inr ⟨by rfl, rfl⟩) hHeld ?_
    try simp only [Act.put, qa, qb, qc]
    refine wpAnyH_take (i := 5) (oi := { dst := some 15, op := Op.load 3 (Operand.tmp 14), type := 3, pos := "l02_state.go:264", after := #[{ on := 4, ground := Ground.data }, { on := 3, ground := Ground.guard }], guard := some (3, false) }) (v := undef) rfl (by kernel_rfl) (by kernel_rfl) (by kernel_rfl) (fun _ _ _ h => h) (Or.inr ⟨by rfl, rfl⟩) hHeld ?_
    try simp only [Act.put, qa, qb, qc]
    refine wpAnyH_take (i := 6) (oi := { dst := some 16, op := Op.binOp BinOp.gtr 3 (Operand.tmp 15) (Operand.const (Value.int IntKind.i64 1000)) 3, type := 4, pos := "l02_state.go:264", after := #[{ on := 5, ground := Ground.data }, { on := 3, ground := Ground.guard }], guard := some (3, false) }) (v := undef) rfl (by kernel_rfl) (by kernel_rfl) (by kernel_rfl) (fun _ _ _ h => h) (Or.inr ⟨by rfl, rfl⟩) hHeld ?_
    try simp only [Act.put, qa, qb, qc]
    refine wpAnyH_take (i := 7) (oi := { dst := some 17, op := Op.pick (Operand.tmp 13) (Operand.const (Value.bool true)) (Operand.tmp 16), type := 4, pos := "l02_state.go:264", after := #[{ on := 3, ground := Ground.data }, { on := 6, ground := Ground.data }], guard := none }) (v := ?_) rfl (by kernel_rfl) (by kernel_rfl) (by kernel_rfl) (fun _ _ _ h => h) (Or.inl ⟨by rfl, ?_⟩) hHeld ?_
    rotate_left
    · (intro wq hSw; (try dsimp only at hSw); first | (go_simp; done) | (go_simp; with_reducible rfl))
    try simp only [Act.put, qa, qb, qc]
    refine wpAnyH_take (i := 8) (oi := { dst := some 18, op := Op.move (Operand.tmp 17), type := 4, pos := "l02_state.go:264", after := #[{ on := 7, ground := Ground.data }, { on := 3, ground := Ground.chain }], guard := none }) (v := ?_) rfl (by kernel_rfl) (by kernel_rfl) (by kernel_rfl) (fun _ _ _ h => h) (Or.inl ⟨by rfl, ?_⟩) hHeld ?_
    rotate_left
    · (intro wq hSw; (try dsimp only at hSw); first | (go_simp; done) | (go_simp; with_reducible rfl))
    try simp only [Act.put, qa, qb, qc]
    refine wpAnyH_take (i := 9) (oi := { dst := some 19, op := Op.fieldAddr 144 (Operand.tmp 1) 1, type := 0, pos := "l02_state.go:264", after := #[{ on := 8, ground := Ground.guard }], guard := some (8, false) }) (v := undef) rfl (by kernel_rfl) (by kernel_rfl) (by kernel_rfl) (fun _ _ _ h => h) (Or.inr ⟨by rfl, rfl⟩) hHeld ?_
    try simp only [Act.put, qa, qb, qc]
    refine wpAnyH_take (i := 10) (oi := { dst := some 20, op := Op.load 46 (Operand.tmp 19), type := 46, pos := "l02_state.go:264", after := #[{ on := 9, ground := Ground.data }, { on := 8, ground := Ground.guard }], guard := some (8, false) }) (v := undef) rfl (by kernel_rfl) (by kernel_rfl) (by kernel_rfl) (fun _ _ _ h => h) (Or.inr ⟨by rfl, rfl⟩) hHeld ?_
    try simp only [Act.put, qa, qb, qc]
    refine wpAnyH_take (i := 11) (oi := { dst := some 21, op := Op.call { callee := Callee.builtin Builtin.len, args := #[Operand.tmp 20], argTypes := #[46] }, type := 3, pos := "l02_state.go:264", after := #[{ on := 10, ground := Ground.data }, { on := 8, ground := Ground.guard }], guard := some (8, false) }) (v := undef) rfl (by kernel_rfl) (by kernel_rfl) (by kernel_rfl) (fun _ _ _ h => h) (Or.inr ⟨by rfl, rfl⟩) hHeld ?_
    try simp only [Act.put, qa, qb, qc]
    refine wpAnyH_take (i := 12) (oi := { dst := some 22, op := Op.fieldAddr 144 (Operand.tmp 1) 0, type := 0, pos := "l02_state.go:264", after := #[{ on := 8, ground := Ground.guard }], guard := some (8, false) }) (v := undef) rfl (by kernel_rfl) (by kernel_rfl) (by kernel_rfl) (fun _ _ _ h => h) (Or.inr ⟨by rfl, rfl⟩) hHeld ?_
    try simp only [Act.put, qa, qb, qc]
    refine wpAnyH_take (i := 13) (oi := { dst := some 23, op := Op.load 135 (Operand.tmp 22), type := 135, pos := "l02_state.go:264", after := #[{ on := 12, ground := Ground.data }, { on := 8, ground := Ground.guard }], guard := some (8, false) }) (v := undef) rfl (by kernel_rfl) (by kernel_rfl) (by kernel_rfl) (fun _ _ _ h => h) (Or.inr ⟨by rfl, rfl⟩) hHeld ?_
    try simp only [Act.put, qa, qb, qc]
    refine wpAnyH_take (i := 14) (oi := { dst := some 24, op := Op.call { callee := Callee.value (Operand.func 103), args := #[Operand.tmp 23], argTypes := #[135] }, type := 3, pos := "l02_state.go:264", after := #[{ on := 13, ground := Ground.data }, { on := 8, ground := Ground.chain }, { on := 8, ground := Ground.guard }], guard := some (8, false) }) (v := undef) rfl (by kernel_rfl) (by kernel_rfl) (by kernel_rfl) (fun _ _ _ h => h) (Or.inr ⟨by rfl, rfl⟩) hHeld ?_
    try simp only [Act.put, qa, qb, qc]
    refine wpAnyH_take (i := 15) (oi := { dst := some 25, op := Op.binOp BinOp.neq 3 (Operand.tmp 21) (Operand.tmp 24) 3, type := 4, pos := "l02_state.go:264", after := #[{ on := 11, ground := Ground.data }, { on := 14, ground := Ground.data }, { on := 8, ground := Ground.guard }], guard := some (8, false) }) (v := undef) rfl (by kernel_rfl) (by kernel_rfl) (by kernel_rfl) (fun _ _ _ h => h) (Or.inr ⟨by rfl, rfl⟩) hHeld ?_
    try simp only [Act.put, qa, qb, qc]
    refine wpAnyH_take (i := 16) (oi := { dst := some 26, op := Op.pick (Operand.tmp 18) (Operand.const (Value.bool true)) (Operand.tmp 25), type := 4, pos := "l02_state.go:264", after := #[{ on := 8, ground := Ground.data }, { on := 15, ground := Ground.data }], guard := none }) (v := ?_) rfl (by kernel_rfl) (by kernel_rfl) (by kernel_rfl) (fun _ _ _ h => h) (Or.inl ⟨by rfl, ?_⟩) hHeld ?_
    rotate_left
    · (intro wq hSw; (try dsimp only at hSw); first | (go_simp; done) | (go_simp; with_reducible rfl))
    try simp only [Act.put, qa, qb, qc]
    refine wpAnyH_done (by kernel_rfl) ?_ _
    go_wp2_with fail
    refine bodyPost_ret (v := .tuple #[.slice none 0 0, .bool false]) (by simp [results, Try.results163, go_sem]; done) rfl ?_
    exact ⟨.inl ⟨hE.out, rfl⟩, hb0.out⟩
  · have h0' : decide (nx < 0) = false := decide_eq_false h0
    by_cases h1 : 1000 < nx
    · have hE := hide (show foI n1 nx hs = none from if_pos (.inr (.inl h1)))
      have h1' : decide (1000 < nx) = true := decide_eq_true h1
      refine wp_region_held_drew (S := (fun w' => w'.cell? ⟨w.heap.size, 0, none⟩ = some (.slice A1 n1 c1) ∧ w'.cell? ⟨w.heap.size, 1, none⟩ = some (.slice A2 n2 c2) ∧ w'.cell? ⟨w.heap.size, 2, none⟩ = some (.slice A3 n3 c3) ∧ w'.cell? ⟨w.heap.size, 3, none⟩ = some (.slice A4 n4 c4) ∧ w'.cell? ⟨w.heap.size, 4, none⟩ = some (.slice A5 hs.length c5) ∧ w'.cell? ⟨w.heap.size, 5, none⟩ = some (.slice A6 n6 c6) ∧ w'.cell? ⟨w.heap.size, 6, none⟩ = some (.slice A7 n7 c7) ∧ w'.cell? ⟨w.heap.size, 7, none⟩ = some (.int .i64 nx))) (by kernel_rfl) ?_ (fun hHeld => ?_)
      · exact vs8 H0.out
      refine wpAnyH_take (i := 0) (oi := { dst := some 10, op := Op.fieldAddr 144 (Operand.tmp 1) 4, type := 0, pos := "l02_state.go:264", after := #[], guard := none }) (v := ?_) rfl (by kernel_rfl) (by kernel_rfl) (by kernel_rfl) (fun _ _ _ h => h) (Or.inl ⟨by rfl, ?_⟩) hHeld ?_
      rotate_left
      · (intro wq hSw; (try dsimp only at hSw); first | (go_simp; done) | (go_simp; with_reducible rfl))
      try simp only [Act.put, qa, qb, qc]
      refine wpAnyH_take (i := 1) (oi := { dst := some 11, op := Op.load 3 (Operand.tmp 10), type := 3, pos := "l02_state.go:264", after := #[{ on := 0, ground := Ground.data }], guard := none }) (v := ?_) rfl (by kernel_rfl) (by kernel_rfl) (by kernel_rfl) (fun _ _ _ h => h) (Or.inl ⟨by rfl, ?_⟩) hHeld ?_
      rotate_left
      · (intro wq hSw; (try dsimp only at hSw); first | (go_simp; done) | (go_simp; with_reducible rfl))
      try simp only [Act.put, qa, qb, qc]
      refine wpAnyH_take (i := 2) (oi := { dst := some 12, op := Op.binOp BinOp.lss 3 (Operand.tmp 11) (Operand.const (Value.int IntKind.i64 0)) 3, type := 4, pos := "l02_state.go:264", after := #[{ on := 1, ground := Ground.data }], guard := none }) (v := ?_) rfl (by kernel_rfl) (by kernel_rfl) (by kernel_rfl) (fun _ _ _ h => h) (Or.inl ⟨by rfl, ?_⟩) hHeld ?_
      rotate_left
      · (intro wq hSw; (try dsimp only at hSw); first | (go_simp; done) | (go_simp; with_reducible rfl))
      try simp only [Act.put, qa, qb, qc]
      refine wpAnyH_take (i := 3) (oi := { dst := some 13, op := Op.move (Operand.tmp 12), type := 4, pos := "l02_state.go:264", after := #[{ on := 2, ground := Ground.data }], guard := none }) (v := ?_) rfl (by kernel_rfl) (by kernel_rfl) (by kernel_rfl) (fun _ _ _ h => h) (Or.inl ⟨by rfl, ?_⟩) hHeld ?_
      rotate_left
      · (intro wq hSw; (try dsimp only at hSw); first | (go_simp; done) | (go_simp; with_reducible rfl))
      try simp only [Act.put, qa, qb, qc]
      refine wpAnyH_take (i := 4) (oi := { dst := some 14, op := Op.fieldAddr 144 (Operand.tmp 1) 4, type := 0, pos := "l02_state.go:264", after := #[{ on := 3, ground := Ground.guard }], guard := some (3, false) }) (v := ?_) rfl (by kernel_rfl) (by kernel_rfl) (by kernel_rfl) (fun _ _ _ h => h) (Or.inl ⟨by rfl, ?_⟩) hHeld ?_
      rotate_left
      · (intro wq hSw; (try dsimp only at hSw); first | (go_simp; done) | (go_simp; with_reducible rfl))
      try simp only [Act.put, qa, qb, qc]
      refine wpAnyH_take (i := 5) (oi := { dst := some 15, op := Op.load 3 (Operand.tmp 14), type := 3, pos := "l02_state.go:264", after := #[{ on := 4, ground := Ground.data }, { on := 3, ground := Ground.guard }], guard := some (3, false) }) (v := ?_) rfl (by kernel_rfl) (by kernel_rfl) (by kernel_rfl) (fun _ _ _ h => h) (Or.inl ⟨by rfl, ?_⟩) hHeld ?_
      rotate_left
      · (intro wq hSw; (try dsimp only at hSw); first | (go_simp; done) | (go_simp; with_reducible rfl))
      try simp only [Act.put, qa, qb, qc]
      refine wpAnyH_take (i := 6) (oi := { dst := some 16, op := Op.binOp BinOp.gtr 3 (Operand.tmp 15) (Operand.const (Value.int IntKind.i64 1000)) 3, type := 4, pos := "l02_state.go:264", after := #[{ on := 5, ground := Ground.data }, { on := 3, ground := Ground.guard }], guard := some (3, false) }) (v := ?_) rfl (by kernel_rfl) (by kernel_rfl) (by kernel_rfl) (fun _ _ _ h => h) (Or.inl ⟨by rfl, ?_⟩) hHeld ?_
      rotate_left
      · (intro wq hSw; (try dsimp only at hSw); first | (go_simp; done) | (go_simp; with_reducible rfl))
      try simp only [Act.put, qa, qb, qc]
      refine wpAnyH_take (i := 7) (oi := { dst := some 17, op := Op.pick (Operand.tmp 13) (Operand.const (Value.bool true)) (Operand.tmp 16), type := 4, pos := "l02_state.go:264", after := #[{ on := 3, ground := Ground.data }, { on := 6, ground := Ground.data }], guard := none }) (v := ?_) rfl (by kernel_rfl) (by kernel_rfl) (by kernel_rfl) (fun _ _ _ h => h) (Or.inl ⟨by rfl, ?_⟩) hHeld ?_
      rotate_left
      · (intro wq hSw; (try dsimp only at hSw); first | (go_simp; done) | (go_simp; with_reducible rfl))
      try simp only [Act.put, qa, qb, qc]
      refine wpAnyH_take (i := 8) (oi := { dst := some 18, op := Op.move (Operand.tmp 17), type := 4, pos := "l02_state.go:264", after := #[{ on := 7, ground := Ground.data }, { on := 3, ground := Ground.chain }], guard := none }) (v := ?_) rfl (by kernel_rfl) (by kernel_rfl) (by kernel_rfl) (fun _ _ _ h => h) (Or.inl ⟨by rfl, ?_⟩) hHeld ?_
      rotate_left
      · (intro wq hSw; (try dsimp only at hSw); first | (go_simp; done) | (go_simp; with_reducible rfl))
      try simp only [Act.put, qa, qb, qc]
      refine wpAnyH_take (i := 9) (oi := { dst := some 19, op := Op.fieldAddr 144 (Operand.tmp 1) 1, type := 0, pos := "l02_state.go:264", after := #[{ on := 8, ground := Ground.guard }], guard := some (8, false) }) (v := undef) rfl (by kernel_rfl) (by kernel_rfl) (by kernel_rfl) (fun _ _ _ h => h) (Or.inr ⟨by rfl, rfl⟩) hHeld ?_
      try simp only [Act.put, qa, qb, qc]
      refine wpAnyH_take (i := 10) (oi := { dst := some 20, op := Op.load 46 (Operand.tmp 19), type := 46, pos := "l02_state.go:264", after := #[{ on := 9, ground := Ground.data }, { on := 8, ground := Ground.guard }], guard := some (8, false) }) (v := undef) rfl (by kernel_rfl) (by kernel_rfl) (by kernel_rfl) (fun _ _ _ h => h) (Or.inr ⟨by rfl, rfl⟩) hHeld ?_
      try simp only [Act.put, qa, qb, qc]
      refine wpAnyH_take (i := 11) (oi := { dst := some 21, op := Op.call { callee := Callee.builtin Builtin.len, args := #[Operand.tmp 20], argTypes := #[46] }, type := 3, pos := "l02_state.go:264", after := #[{ on := 10, ground := Ground.data }, { on := 8, ground := Ground.guard }], guard := some (8, false) }) (v := undef) rfl (by kernel_rfl) (by kernel_rfl) (by kernel_rfl) (fun _ _ _ h => h) (Or.inr ⟨by rfl, rfl⟩) hHeld ?_
      try simp only [Act.put, qa, qb, qc]
      refine wpAnyH_take (i := 12) (oi := { dst := some 22, op := Op.fieldAddr 144 (Operand.tmp 1) 0, type := 0, pos := "l02_state.go:264", after := #[{ on := 8, ground := Ground.guard }], guard := some (8, false) }) (v := undef) rfl (by kernel_rfl) (by kernel_rfl) (by kernel_rfl) (fun _ _ _ h => h) (Or.inr ⟨by rfl, rfl⟩) hHeld ?_
      try simp only [Act.put, qa, qb, qc]
      refine wpAnyH_take (i := 13) (oi := { dst := some 23, op := Op.load 135 (Operand.tmp 22), type := 135, pos := "l02_state.go:264", after := #[{ on := 12, ground := Ground.data }, { on := 8, ground := Ground.guard }], guard := some (8, false) }) (v := undef) rfl (by kernel_rfl) (by kernel_rfl) (by kernel_rfl) (fun _ _ _ h => h) (Or.inr ⟨by rfl, rfl⟩) hHeld ?_
      try simp only [Act.put, qa, qb, qc]
      refine wpAnyH_take (i := 14) (oi := { dst := some 24, op := Op.call { callee := Callee.value (Operand.func 103), args := #[Operand.tmp 23], argTypes := #[135] }, type := 3, pos := "l02_state.go:264", after := #[{ on := 13, ground := Ground.data }, { on := 8, ground := Ground.chain }, { on := 8, ground := Ground.guard }], guard := some (8, false) }) (v := undef) rfl (by kernel_rfl) (by kernel_rfl) (by kernel_rfl) (fun _ _ _ h => h) (Or.inr ⟨by rfl, rfl⟩) hHeld ?_
      try simp only [Act.put, qa, qb, qc]
      refine wpAnyH_take (i := 15) (oi := { dst := some 25, op := Op.binOp BinOp.neq 3 (Operand.tmp 21) (Operand.tmp 24) 3, type := 4, pos := "l02_state.go:264", after := #[{ on := 11, ground := Ground.data }, { on := 14, ground := Ground.data }, { on := 8, ground := Ground.guard }], guard := some (8, false) }) (v := undef) rfl (by kernel_rfl) (by kernel_rfl) (by kernel_rfl) (fun _ _ _ h => h) (Or.inr ⟨by rfl, rfl⟩) hHeld ?_
      try simp only [Act.put, qa, qb, qc]
      refine wpAnyH_take (i := 16) (oi := { dst := some 26, op := Op.pick (Operand.tmp 18) (Operand.const (Value.bool true)) (Operand.tmp 25), type := 4, pos := "l02_state.go:264", after := #[{ on := 8, ground := Ground.data }, { on := 15, ground := Ground.data }], guard := none }) (v := ?_) rfl (by kernel_rfl) (by kernel_rfl) (by kernel_rfl) (fun _ _ _ h => h) (Or.inl ⟨by rfl, ?_⟩) hHeld ?_
      rotate_left
      · (intro wq hSw; (try dsimp only at hSw); first | (go_simp; done) | (go_simp; with_reducible rfl))
      try simp only [Act.put, qa, qb, qc]
      refine wpAnyH_done (by kernel_rfl) ?_ _
      go_wp2_with fail
      refine bodyPost_ret (v := .tuple #[.slice none 0 0, .bool false]) (by simp [results, Try.results163, go_sem]; done) rfl ?_
      exact ⟨.inl ⟨hE.out, rfl⟩, hb0.out⟩
    · have h1' : decide (1000 < nx) = false := decide_eq_false h1
      obtain ⟨m, rfl⟩ : ∃ m : Nat, nx = m := ⟨nx.toNat, by omega⟩
      have hm : m ≤ 1000 := by omega
      go_region_held3 (fun w' => w'.cell? ⟨w.heap.size, 0, none⟩ = some (.slice A1 n1 c1) ∧ w'.cell? ⟨w.heap.size, 1, none⟩ = some (.slice A2 n2 c2) ∧ w'.cell? ⟨w.heap.size, 2, none⟩ = some (.slice A3 n3 c3) ∧ w'.cell? ⟨w.heap.size, 3, none⟩ = some (.slice A4 n4 c4) ∧ w'.cell? ⟨w.heap.size, 4, none⟩ = some (.slice A5 hs.length c5) ∧ w'.cell? ⟨w.heap.size, 5, none⟩ = some (.slice A6 n6 c6) ∧ w'.cell? ⟨w.heap.size, 6, none⟩ = some (.slice A7 n7 c7) ∧ w'.cell? ⟨w.heap.size, 7, none⟩ = some (.int .i64 (m : Int)))
        (first | exact vs8 H0.out | exact vs8 H1.out)
        (first
        | (go_at_call 103; refine (comCells_any _ _ _ _ _ _ _ _ _ _ _ _ _).mono ?_; rintro e w1 ⟨rfl, hb1⟩; have H1 := hide (H0.out.below hb1 H0.out.lt); have B1 := hide (below_then hb0.out hb1)))
      clear H0 hb0 hb1 h0' h1' h0 h1
      by_cases hl : hs.length = n1
      · have hl' : ((hs.length : Int) != (n1 : Int)) = false := by simp [hl]
        rw [hl']
        clear hl'
        have hfo := hide (show foI n1 m hs = ownAll m hs hs.length from (if_neg (by omega)).trans (by rw [Int.toNat_natCast]))
        obtain ⟨k0, k1, k2, k3, k4, k5, k6, k7⟩ := vs8 H1.out
        have hmk := make_owners m (by omega)
        have hl1 := H1.out.lt
        clear hl
        go_wp2_with fail
        clear hmk k0 k1 k2 k3 k4 k5 k6 k7
        have hq2 := hide (show Only w1.heap.size w1 (w1.alloc (.cells (zrow #[.int .i64 0] m) 3)) from (Only.refl _ _).alloc _)
        obtain ⟨w2, hw2⟩ : ∃ wq, wq = w1.alloc (.cells (zrow #[.int .i64 0] m) 3) := ⟨_, rfl⟩
        have hM : ∃ cs : Array Value, Blk w2 w1.heap.size 3 cs ∧ cs.size = m := ⟨_, by rw [hw2]; exact Blk.new _ _ _, zrow_size _ _⟩
        have H2 := hide (show Blk w2 w.heap.size 144 #[.slice A1 n1 c1, .slice A2 n2 c2, .slice A3 n3 c3, .slice A4 n4 c4, .slice A5 hs.length c5, .slice A6 n6 c6, .slice A7 n7 c7, .int .i64 m] from by rw [hw2]; exact H1.out.alloc _)
        have B2 := hide (show Below w.heap.size w w2 from by rw [hw2]; exact B1.out.alloc B1.out.size _)
        rw [← hw2]
        clear hw2 hq2
        obtain ⟨q, hq⟩ : ∃ q, q = w1.heap.size := ⟨_, rfl⟩
        rw [← hq] at hM ⊢
        have hql : w.heap.size < q := by omega
        have hql2 : q < w2.heap.size := by obtain ⟨cs, h, -⟩ := hM; exact h.lt
        clear hq B1 H1 hl1
        go_loopw [32] (fun i wr => ∃ (k : Nat), k ≤ m ∧ i = .int .i64 k ∧ Hid (∃ cs : Array Value, Blk wr q 3 cs ∧ cs.size = m ∧ ∀ j, j < k → cs[j]? = some (.int .i64 (-1))) ∧ Hid (Only q w2 wr)) (fun i _ => m - (intOf i).toNat)
        case atStart =>
          obtain ⟨cs, h, h2⟩ := hM
          exact ⟨0, Nat.zero_le _, rfl, hide ⟨cs, h, h2, fun j hj => by omega⟩, hide (Only.refl _ _)⟩
        case round =>
          clear hM
          obtain ⟨k, hk, rfl, hcs0, ho⟩ := hrel
          obtain ⟨cs, hB, hsz, hcs⟩ := hcs0.out
          clear hcs0
          by_cases hlt : k < m
          · have hlt' : (k : Int) < (m : Int) := by omega
            have hk0 : (0 : Int) ≤ (k : Int) := by omega
            obtain ⟨u, hu⟩ : ∃ u, cs[k]? = some u := ⟨_, Array.getElem?_eq_getElem (by omega)⟩
            have c1' := (hB.cell k).trans hu
            have z1 := hB.frozen k
            have hBh := hide hB
            clear hB hu
            go_wp2_with fail
            go_roundw
            case rel => exact ⟨k + 1, by omega, by go_num, hide ⟨_, hBh.out.set_ _ _, by simpa using hsz, fun j hj => by
              rw [Array.getElem?_setIfInBounds]
              by_cases e : j = k
              · subst e; rw [if_pos rfl, if_pos (by omega)]
              · rw [if_neg (fun h => e h.symm)]; exact hcs j (by omega)⟩, hide (ho.out.setCell (.inl rfl) _)⟩
            case measure => simp [intOf]; omega
          · obtain rfl : k = m := by omega
            have hO : Hid (OsAt wr q k (List.replicate k (-1))) := hide ⟨cs, hB, hsz, by simp, fun i hi => by rw [hcs i hi]; congr 2; unfold geti; rw [List.getD_eq_getElem?_getD, List.getElem?_replicate, if_pos hi]; rfl⟩
            clear hB hsz hcs hlt
            obtain ⟨w3, rfl⟩ : ∃ w3 : World, w3 = wr := ⟨_, rfl⟩
            have H3 := hide (H2.out.only ho.out (by omega))
            have hzo := ho.out.size
            obtain ⟨k0, k1, k2, k3, k4, k5, k6, k7⟩ := vs8 H3.out
            go_wp2_with fail
            clear k0 k1 k2 k3 k4 k5 k6 k7
            have B3 := hide (show Below w.heap.size w w3 from B2.out.trans (only_lo ho.out (by omega) B2.out.size))
            replace ho := hide (show Only q w3 w3 from Only.refl _ _)
            clear B2
            go_loopw [42] (fun i wr => ∃ (x : Nat) (os : List Int), x ≤ hs.length ∧ i = .int .i64 x ∧ Hid (ownAll k hs x = some os) ∧ Hid (OsAt wr q k os) ∧ Hid (Only q w3 wr)) (fun i _ => hs.length - (intOf i).toNat)
            case atStart => exact ⟨0, _, Nat.zero_le _, rfl, hide rfl, hO, ho⟩
            case round =>
              clear hO ho
              obtain ⟨x, os, hx, rfl, hos, hO, ho⟩ := hrel
              have hzr := ho.out.size
              have Br := hide (B3.out.trans (only_lo ho.out (by omega) B3.out.size))
              by_cases hlt : x < hs.length
              · obtain ⟨b, off, rfl, hSb, hc⟩ := (hh.out.below Br.out hS).2 (by omega)
                obtain ⟨A', c', hcell, hcap, hp⟩ := hc x hlt
                have hlt' : (x : Int) < (hs.length : Int) := by omega
                have hx0 : (0 : Int) ≤ (x : Int) := by omega
                have hbl := Nat.lt_of_lt_of_le (hS b hSb) Br.out.size
                obtain ⟨l, hl⟩ : ∃ l, l = geth hs x := ⟨_, rfl⟩
                rw [← hl] at hcell hcap hp
                have hln := hp.1
                replace hp := hide hp
                replace hl := hide hl
                clear hc
                rcases Nat.eq_zero_or_pos l.length with hz | hz
                · have hE := hide (show foI n1 k hs = none from by
                    rw [hfo.out]
                    refine ownAll_none (k := x + 1) ?_ hlt
                    rw [ownAll, hos.out, ← hl.out]
                    simp [headB, hz])
                  rw [hz] at hcell
                  go_wp2_with fail
                  refine bodyPost_ret (v := .tuple #[.slice none 0 0, .bool false]) (by simp [results, Try.results163, go_sem]; done) rfl ?_
                  exact ⟨.inl ⟨hE.out, rfl⟩, Br.out.alloc Br.out.size _⟩
                · obtain ⟨bp, op, rfl, hSp, hcp⟩ := hp.out.2 hz
                  obtain ⟨V0, cv0, ⟨-, -, g2, -⟩, -, -⟩ := hcp 0 hz
                  rw [Nat.zero_mul, Nat.add_zero] at g2
                  have hbp := Nat.lt_of_lt_of_le (hS bp hSp) Br.out.size
                  have hz' : ((l.length : Int) == 0) = false := by rw [beq_eq_false_iff_ne]; omega
                  have hz0 : (0 : Int) < (l.length : Int) := by omega
                  clear hcp
                  cases hg : (getp l 0).glue
                  · rw [hg] at g2
                    obtain ⟨w4, hw4⟩ : ∃ wq, wq = wr.alloc (Obj.cells #[.slice (some ⟨bp, op, none⟩) l.length c'] 84) := ⟨_, rfl⟩
                    have hb4 : Below wr.heap.size wr w4 := by rw [hw4]; exact below1 _ _
                    have hO4 := hide (show OsAt w4 q k os from by rw [hw4]; exact hO.out.alloc _)
                    have ho4 := hide (show Only q w3 w4 from by rw [hw4]; exact ho.out.alloc _)
                    have B4 := hide (below_then Br.out hb4)
                    have hp4 := hide (hp.out.below hb4 (fun b h => Nat.lt_of_lt_of_le (hS b h) Br.out.size))
                    clear hb4 hp hO ho
                    go_wp2_with fail
                    rw [← hw4]
                    clear hw4 g2 hcell
                    go_loopw [61] (fun i ws => ∃ (j : Nat) (ot : List Int), j ≤ l.length ∧ i = .int .i64 j ∧ Hid (ownTo x l os j = some ot) ∧ Hid (OsAt ws q k ot) ∧ Hid (Only q w4 ws)) (fun i _ => l.length - (intOf i).toNat)
                    case atStart => exact ⟨0, _, Nat.zero_le _, rfl, hide rfl, hO4, hide (Only.refl _ _)⟩
                    case round =>
                      clear hO4
                      obtain ⟨j, ot, hj, rfl, ht, hOt, hoj⟩ := hrel
                      have hz4 := ho4.out.size
                      have hzj := hoj.out.size
                      have B5 := hide (B4.out.trans (only_lo hoj.out (by omega) B4.out.size))
                      by_cases hjl : j < l.length
                      · obtain ⟨b2, o2, e2, hSb2, hc2⟩ := (hp4.out.below (only_lo hoj.out (show w.heap.size ≤ q by omega) B4.out.size) hS).2 (by omega)
                        cases e2
                        obtain ⟨V, cv, ⟨p0, p1, p2, p3⟩, -, -⟩ := hc2 j hjl
                        have hjl' : (j : Int) < (l.length : Int) := by omega
                        have hj0 : (0 : Int) ≤ (j : Int) := by omega
                        obtain ⟨d, hd⟩ : ∃ d, d = getp l j := ⟨_, rfl⟩
                        rw [← hd] at p0 p1 p2 p3
                        replace hd := hide hd
                        have k7 : wr.cell? ⟨w.heap.size, 7, none⟩ = some (.int .i64 (k : Int)) := (vs8 ((H3.out.only ho4.out (by omega)).only hoj.out (by omega))).2.2.2.2.2.2.2
                        have hzB := B5.out.size
                        have hlw : w.heap.size < wr.heap.size := by omega
                        have hlen := hOt.out.choose_spec.2.2.1
                        have hbad : ownStep x ot d = none → foI n1 k hs = none := fun h => by
                          rw [hfo.out]
                          refine ownAll_none (k := x + 1) ?_ hlt
                          rw [ownAll, hos.out, ← hl.out]
                          simp only [Option.bind_some, headB, hz, hg]
                          refine ownTo_none (k := j + 1) ?_ hjl
                          rw [ownTo, ht.out, Option.bind_some, ← hd.out]
                          exact h
                        replace hbad := hide hbad
                        clear hc2
                        by_cases i0 : d.id < 0
                        · have hE := hide (hbad.out (by unfold ownStep; rw [if_pos (.inl i0)]))
                          have i0' : decide (d.id < 0) = true := decide_eq_true i0
                          go_wp2_with fail
                          refine bodyPost_ret (v := .tuple #[.slice none 0 0, .bool false]) (by simp [results, Try.results163, go_sem]; done) rfl ?_
                          exact ⟨.inl ⟨hE.out, rfl⟩, B5.out.alloc B5.out.size _⟩
                        · have i0' : decide (d.id < 0) = false := decide_eq_false i0
                          by_cases i1 : (k : Int) ≤ d.id
                          · have hE := hide (hbad.out (by unfold ownStep; rw [if_pos (.inr (.inl (by omega)))]))
                            have i1' : decide ((k : Int) ≤ d.id) = true := decide_eq_true i1
                            go_wp2_with fail
                            refine bodyPost_ret (v := .tuple #[.slice none 0 0, .bool false]) (by simp [results, Try.results163, go_sem]; done) rfl ?_
                            exact ⟨.inl ⟨hE.out, rfl⟩, B5.out.alloc B5.out.size _⟩
                          · obtain ⟨n, hnd⟩ : ∃ n : Nat, d.id = n := ⟨d.id.toNat, by omega⟩
                            rw [hnd] at p0 i0 i1
                            have hnk : n < k := by omega
                            have i0' : decide ((n : Int) < 0) = false := decide_eq_false i0
                            have i1' : decide ((k : Int) ≤ (n : Int)) = false := decide_eq_false i1
                            have i2 : (n : Int) < (k : Int) := by omega
                            have i3 : (0 : Int) ≤ (n : Int) := by omega
                            obtain ⟨q0, z0, l0⟩ := hOt.out.cell hnk
                            by_cases i4 : geti ot n = -1
                            · have i4' : (geti ot n != -1) = false := by simp [i4]
                              have hst : ownStep x ot d = some (ot.set n x) := by
                                unfold ownStep
                                rw [hnd, if_neg (by rw [Int.toNat_natCast]; omega), Int.toNat_natCast]
                              replace hst := hide hst
                              clear hbad i4
                              go_wp2_with fail
                              go_roundw
                              case rel => exact ⟨j + 1, ot.set n x, by omega, by go_num, hide (by rw [ownTo, ht.out, Option.bind_some, ← hd.out]; exact hst.out), hide ((hOt.out.set hnk _).alloc _), hide ((hoj.out.setCell (p := ⟨q, n, none⟩) (.inl rfl) _).alloc _)⟩
                              case measure => simp [intOf]; omega
                            · have hE := hide (hbad.out (by unfold ownStep; rw [if_pos (.inr (.inr (by rw [hnd, Int.toNat_natCast]; exact i4)))]))
                              have i4' : (geti ot n != -1) = true := by rw [bne_iff_ne]; exact i4
                              go_wp2_with fail
                              refine bodyPost_ret (v := .tuple #[.slice none 0 0, .bool false]) (by simp [results, Try.results163, go_sem]; done) rfl ?_
                              exact ⟨.inl ⟨hE.out, rfl⟩, B5.out.alloc B5.out.size _⟩
                      · obtain rfl : j = l.length := by omega
                        go_wp2_with fail
                        go_roundw
                        case rel => exact ⟨x + 1, ot, by omega, by go_num, hide (by rw [ownAll, hos.out, ← hl.out]; simp only [Option.bind_some, headB, hz, hg]; exact ht.out), hOt, hide (ho4.out.trans hoj.out)⟩
                        case measure => simp [intOf]; omega
                  · have hE := hide (show foI n1 k hs = none from by
                      rw [hfo.out]
                      refine ownAll_none (k := x + 1) ?_ hlt
                      rw [ownAll, hos.out, ← hl.out]
                      simp [headB, hg])
                    rw [hg] at g2
                    go_wp2_with fail
                    refine bodyPost_ret (v := .tuple #[.slice none 0 0, .bool false]) (by simp [results, Try.results163, go_sem]; done) rfl ?_
                    exact ⟨.inl ⟨hE.out, rfl⟩, Br.out.alloc Br.out.size _⟩
              · obtain rfl : x = hs.length := by omega
                have hlen := hide (ownAll_len hos.out)
                go_wp2_with fail
                refine bodyPost_ret (v := .tuple #[.slice (some ⟨q, 0, none⟩) k k, .bool true]) (by simp [results, Try.results163, go_sem]; done) rfl ?_
                exact ⟨.inr ⟨os, q, k, by rw [hfo.out]; exact hos.out, by rw [hlen.out], hO.out.ints hm ⟨by omega, by omega⟩⟩, Br.out⟩
      · have hl' : ((hs.length : Int) != (n1 : Int)) = true := by rw [bne_iff_ne]; omega
        have hE := hide (show foI n1 m hs = none from if_pos (.inr (.inr hl)))
        go_wp2_with fail
        refine bodyPost_ret (v := .tuple #[.slice none 0 0, .bool false]) (by simp [results, Try.results163, go_sem]; done) rfl ?_
        exact ⟨.inl ⟨hE.out, rfl⟩, B1.out⟩
end Go.Proofs.Ytfkaacfeikmabaa
