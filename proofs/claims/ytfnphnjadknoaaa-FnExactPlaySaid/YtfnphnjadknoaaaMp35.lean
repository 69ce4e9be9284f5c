/- The model's l9take where the row is not empty. -/
import Derived.Test.YtfnphnjadknoaaaMp0
import Derived.Test.YtfnphnjadknoaaaMp21
import Derived.Test.YtfnphnjadknoaaaMp27
import Derived.Test.YtfnphnjadknoaaaMp32
import Derived.Test.YtfnphnjadknoaaaMp34
namespace Go.Proofs.Ytfnphnjadknoaaa
open Go.RowKit

section
variable {P : Program} (w : World)
theorem wp_append_empty {o : Oper} {a : Act} {K : Act → World → Prop} {Q : Exit → Act → World → Prop} (s x : Operand) (t : TypeId)
    (ho : o.op = .call { callee := .builtin .append, args := #[s, x], argTypes := #[t, t] })
    {f : Nat → Nat} {l B : Nat} (e : TypeId) (i : TypeInfo) (z : Value) (sz bytes : Nat) (ht : P.underlying t = some (.slice e)) (hi : P.info? e = some i) (hz : i.zero = some z)
    (hsize : i.size = sz) (hby : i.bytes = bytes) (hzs : z.cells.size = sz) (hsz : 0 < sz)
    (q : Nat) (hs : a.eval s = .slice (some ⟨q, 0, none⟩) 0 0) (hq : Blk w q e #[]) (hfq : f q = l) (hBq : B ≤ q) (A : Option Addr) (m c : Nat) (hh : Nat → Value) (hx : a.eval x = .slice A m c) (ha : CellsAt w A (m * sz) hh)
    (h63 : m ≤ maxLen) (hbytes : m * bytes ≤ 140737488355328)
    (h : ∀ v' w' f', Sl e sz w' f' l B v' m hh → Below w.heap.size w w' → (∀ b, b < w.heap.size → f' b = f b) → K (a.put o.dst v') w') : o.wp P a w K Q := by
  obtain ⟨v', w', f', hr, h2, h3, h4⟩ := run_append_empty (P := P) w t o.type e i z sz bytes ht hi hz hsize hby hzs hsz q hq hfq hBq A m c hh ha h63 hbytes
  unfold Oper.wp execOp
  simp only [ho, resolve, invoke, builtin, Sem.run_bind, Sem.run_pure, Result.andThen_ok, List.map_toArray, List.map_cons, List.map_nil, hs, hx, hr]
  exact h v' w' f' h2 h3 h4
end
theorem Lab.then_ {f f' : Nat → Nat} {l B : Nat} {a b c : World} (h : Lab f l B a b) (hf : ∀ x, x < a.heap.size → f' x = f x) (k : Lab f' l B b c) : Lab f l B a c :=
  ⟨k.os.trans h.os, k.tape.trans h.tape, k.output.trans h.output, Nat.le_trans h.size k.size, fun x hx hn => (k.block x (Nat.lt_of_lt_of_le hx h.size) (fun e => hn ⟨by rw [← hf x hx]; exact e.1, e.2⟩)).trans (h.block x hx hn)⟩
set_option maxRecDepth 100000 in
set_option maxHeartbeats 3200000 in
theorem ltake_any (f : Nat → Nat) (B g : Nat) (x : PV) (p : PoolD) (W : Nat) (w : World) (hI : Hid (PInv p (-1))) (hsz : Hid (∀ k, (getj p.js k).ks.length ≤ 1048576)) (hW : W < p.dq.length) (hne : 0 < (getq p.dq W).length) (hB : B ≤ w.heap.size) (h : BoxO w f B g x p) :
    Calls Try.prog 64 #[.pointer (some ⟨g, 0, none⟩), .int .i64 W] w fun e w' => e = .returned (.bool true) ∧ ∃ f' rv, BoxO w' f' B g { x with rv := rv } (takeP p W) ∧ OwnC f B w w' ∧ ∀ b, b < w.heap.size → f' b = f b := by
  obtain ⟨i1, hi1, hy0, hy1, hy2⟩ := info_parts Try.infoInt
  obtain ⟨bD, oD, cD, hD, fD, lbD, xh, zh⟩ := h.pool.rows.heads.one hW
  have hE := h.pool.rows.each W hW
  obtain ⟨n, hn⟩ : ∃ n, (getq p.dq W).length = n + 1 := ⟨(getq p.dq W).length - 1, by omega⟩
  obtain ⟨hrow, hJ, hz⟩ := hI.out.last hW hne
  obtain ⟨J, hJJ⟩ : ∃ J, J = lastJ p W := ⟨_, rfl⟩
  rw [← hJJ] at hrow hJ hz
  have hJb := (hI.out.stands hW (j := J) (by rw [hrow]; simp)).1
  have h30 := hI.out.tree.top
  have hrl := hI.out.row_len hW
  obtain ⟨qR, oR, cR, hv0, fR, -, lbR, hcR⟩ := hE.at_ (k := n) (by omega)
  obtain ⟨hle, hmax⟩ : (getq p.dq W).length ≤ cR ∧ cR ≤ 9223372036854775807 := by
    rcases hE with ⟨e, e2⟩ | ⟨q', off', c', cs, e, h1, h2, -⟩
    · omega
    · rw [hv0] at e
      cases e
      exact ⟨h1, h2⟩
  have xz := (hcR n (by omega)).1
  unfold gI at xz
  rw [show n = (getq p.dq W).length - 1 by omega, hz] at xz
  rw [show (getq p.dq W).length - 1 = n by omega] at xz
  rw [hv0, hn] at xh
  have hlen1 : (getq p.dq W).dropLast.length = n := by rw [List.length_dropLast]; omega
  have hinn : CellsAt w (some ⟨qR, oR, none⟩) (n * 1) (gI (getq p.dq W).dropLast) := by
    refine ⟨fun j hj => by unfold gI; rfl, fun _ => ⟨qR, oR, rfl, fun j hj => ?_⟩⟩
    rw [gI_init (by omega)]
    exact (hcR j (by omega)).1
  have hin := hide (fun wx (hb : Below w.heap.size w wx) => hinn.next hb)
  obtain ⟨⟨x0, x1, -, -, -, -, -⟩, xl⟩ := box7 h.box
  obtain ⟨b0, o0, c0, v0, f0, -, lb0, hL⟩ := h.pool.jobs.heads.at_ (k := J * 2 + 1) (by show J * 2 + 1 < p.js.length * 2; omega)
  have xk := (hL (J * 2 + 1) (by show J * 2 + 1 < p.js.length * 2; omega)).1
  rw [gJob_k, ← Nat.add_assoc] at xk
  have hKs := h.pool.jobs.each J hJb
  obtain ⟨AK, cK, vK⟩ := hKs.form
  have hKi := (hKs.intsO vK).cells
  have hkid := hide (fun wx (hb : Below w.heap.size w wx) => hKi.next hb)
  rw [vK] at xk
  rw [v0] at x0
  rw [hD] at x1
  have fg := h.fg
  have ngD : g ≠ bD := fun e => by rw [← e] at fD; omega
  have n0D : b0 ≠ bD := fun e => by rw [← e] at fD; omega
  have hS := hide (show ∀ wx, Lab f (9 + W * 2) B w wx → (wx.cell? ⟨g, 1, none⟩ = some (.slice (some ⟨bD, oD, none⟩) p.dq.length cD) ∧ wx.cell? ⟨g, 0, none⟩ = some (.slice (some ⟨b0, o0, none⟩) p.js.length c0) ∧ wx.cell? ⟨b0, o0 + J * 2 + 1, none⟩ = some (.slice AK (getj p.js J).ks.length cK)) ∧ wx.cell? ⟨bD, oD + W, none⟩ = some (.slice (some ⟨qR, oR, none⟩) (n + 1) cR) ∧ wx.frozen? ⟨bD, oD + W, none⟩ = false from fun wx hb => by
    have kc : ∀ q o', f q ≠ (9 + W * 2) → q < w.heap.size → wx.cell? ⟨q, o', none⟩ = w.cell? ⟨q, o', none⟩ ∧ wx.frozen? ⟨q, o', none⟩ = w.frozen? ⟨q, o', none⟩ := fun q o' hf hl => by
      have := hb.block q hl (fun e => hf e.1)
      constructor
      · simp [World.cell?, this]
      · simp [World.frozen?, this]
    have hgl := h.box.lt
    exact ⟨⟨(kc g 1 (by omega) hgl).1.trans x1, (kc g 0 (by omega) hgl).1.trans x0, (kc b0 _ (by omega) lb0).1.trans xk⟩, (kc bD _ (by omega) lbD).1.trans xh, (kc bD _ (by omega) lbD).2.trans zh⟩)
  have y13 := (hS.out w (Lab.refl _ _ _ _)).2.1
  obtain ⟨r, hr⟩ : ∃ r, r = (getq p.dq W).dropLast ++ (getj p.js J).ks := ⟨_, rfl⟩
  have hSr := hide (show ∀ A7 c7 w7 f7, Sl 3 1 w7 f7 (9 + W * 2) B (.slice A7 (n + (getj p.js J).ks.length) c7) (n + (getj p.js J).ks.length) (gThen (gI (getq p.dq W).dropLast) (n * 1) (gI (getj p.js J).ks)) → Sl 3 1 w7 f7 (9 + W * 2) B (.slice A7 (n + (getj p.js J).ks.length) c7) r.length (gI r) from fun A7 c7 w7 f7 hh => by
    have hlr : r.length = n + (getj p.js J).ks.length := by rw [hr, List.length_append, hlen1]
    rw [hlr]
    refine hh.congr (fun k hk => ?_)
    rw [hr]
    by_cases h1 : k < n
    · rw [gThen_lo (by omega)]
      unfold gI geti
      rw [List.getD_eq_getElem?_getD, List.getD_eq_getElem?_getD, List.getElem?_append_left (by omega)]
    · rw [gThen_hi (by omega)]
      unfold gI geti
      rw [List.getD_eq_getElem?_getD, List.getD_eq_getElem?_getD, List.getElem?_append_right (by omega), hlen1, show k - n * 1 = k - n by omega])
  have hT := hide (show takeP p W = if (getj p.js J).ks.length = 0 then finP (J + 1) (ranP p W J r) J else ranP p W J r from by rw [hr, hJJ]; rfl)
  have hTk := hI.out.took hW hrow
  rw [← hr] at hTk
  replace hTk := hide hTk
  have e2 := hI.out.lran
  have e4 := hI.out.llf
  have l3 : (J : Int) < p.ran.length := by omega
  have l5 : (J : Int) < p.lf.length := by omega
  replace hr := hide hr
  have hks : (getj p.js J).ks.length ≤ 1048576 := hsz.out J
  have hJl : (J : Int) < p.js.length := by omega
  have hWl : (W : Int) < p.dq.length := by omega
  have hn30 : n < 31 := by omega
  have hnc : n < cR := by omega
  have hwr : IntKind.i64.wrap (n : Int) = n := by rw [IntKind.wrap_i64]; omega
  have hnI : 0 ≤ (n : Int) ∧ (n : Int) ≤ cR := by omega
  replace hJJ := hide hJJ
  replace hrow := hide hrow
  replace hz := hide hz
  replace hn := hide hn
  replace hlen1 := hide hlen1
  replace h := hide h
  replace hv0 := hide hv0
  replace v0 := hide v0
  replace vK := hide vK
  replace hD := hide hD
  clear hL hKs hKi hinn hcR hE
  go_enter Try.func64, Try.ntmps64
  go_upto_region 5 with fail

  refine wp_region_held_drew (S := (fun w' : World => w'.cell? ⟨g, 1, none⟩ = some (.slice (some ⟨bD, oD, none⟩) p.dq.length cD) ∧ w'.cell? ⟨g, 0, none⟩ = some (.slice (some ⟨b0, o0, none⟩) p.js.length c0) ∧ w'.cell? ⟨b0, o0 + J * 2 + 1, none⟩ = some (.slice AK (getj p.js J).ks.length cK))) (by kernel_rfl) ?_ (fun hHeld => ?_)
  · exact (hS.out _ (Lab.refl _ _ _ _).drew).1
  refine wpAnyH_take (i := 0) (oi := { dst := some 30, op := Op.move (.tmp 0), type := 85, pos := "l09_jobs.go:167", after := #[], guard := none }) (v := ?_) rfl (by kernel_rfl) (by kernel_rfl) (by kernel_rfl) (fun _ _ _ h => h) (Or.inl ⟨by rfl, ?_⟩) hHeld ?_
  rotate_left
  · (intro wq hSw; (try dsimp only at hSw); first | (go_simp; done) | (go_simp; with_reducible rfl))
  try simp only [Act.put, qa, qb, qc]
  refine wpAnyH_take (i := 1) (oi := { dst := some 31, op := Op.nilCheck (.tmp 30), type := 0, pos := "l09_jobs.go:167", after := #[⟨0, .data⟩], guard := none }) (v := ?_) rfl (by kernel_rfl) (by kernel_rfl) (by kernel_rfl) (fun _ _ _ h => h) (Or.inl ⟨by rfl, ?_⟩) hHeld ?_
  rotate_left
  · (intro wq hSw; (try dsimp only at hSw); first | (go_simp; done) | (go_simp; with_reducible rfl))
  try simp only [Act.put, qa, qb, qc]
  refine wpAnyH_take (i := 2) (oi := { dst := some 32, op := Op.fieldAddr 28 (.tmp 31) 1, type := 0, pos := "l09_jobs.go:167", after := #[⟨1, .data⟩], guard := none }) (v := ?_) rfl (by kernel_rfl) (by kernel_rfl) (by kernel_rfl) (fun _ _ _ h => h) (Or.inl ⟨by rfl, ?_⟩) hHeld ?_
  rotate_left
  · (intro wq hSw; (try dsimp only at hSw); first | (go_simp; done) | (go_simp; with_reducible rfl))
  try simp only [Act.put, qa, qb, qc]
  refine wpAnyH_take (i := 3) (oi := { dst := some 33, op := Op.load 24 (.tmp 32), type := 24, pos := "l09_jobs.go:167", after := #[⟨2, .data⟩], guard := none }) (v := ?_) rfl (by kernel_rfl) (by kernel_rfl) (by kernel_rfl) (fun _ _ _ h => h) (Or.inl ⟨by rfl, ?_⟩) hHeld ?_
  rotate_left
  · (intro wq hSw; (try dsimp only at hSw); first | (go_simp; done) | (go_simp; with_reducible rfl))
  try simp only [Act.put, qa, qb, qc]
  refine wpAnyH_take (i := 4) (oi := { dst := some 34, op := Op.move (.tmp 1), type := 3, pos := "l09_jobs.go:167", after := #[], guard := none }) (v := ?_) rfl (by kernel_rfl) (by kernel_rfl) (by kernel_rfl) (fun _ _ _ h => h) (Or.inl ⟨by rfl, ?_⟩) hHeld ?_
  rotate_left
  · (intro wq hSw; (try dsimp only at hSw); first | (go_simp; done) | (go_simp; with_reducible rfl))
  try simp only [Act.put, qa, qb, qc]
  refine wpAnyH_take (i := 6) (oi := { dst := some 36, op := Op.move (.tmp 0), type := 85, pos := "l09_jobs.go:167", after := #[], guard := none }) (v := ?_) rfl (by kernel_rfl) (by kernel_rfl) (by kernel_rfl) (fun _ _ _ h => h) (Or.inl ⟨by rfl, ?_⟩) hHeld ?_
  rotate_left
  · (intro wq hSw; (try dsimp only at hSw); first | (go_simp; done) | (go_simp; with_reducible rfl))
  try simp only [Act.put, qa, qb, qc]
  refine wpAnyH_take (i := 7) (oi := { dst := some 37, op := Op.nilCheck (.tmp 36), type := 0, pos := "l09_jobs.go:167", after := #[⟨6, .data⟩], guard := none }) (v := ?_) rfl (by kernel_rfl) (by kernel_rfl) (by kernel_rfl) (fun _ _ _ h => h) (Or.inl ⟨by rfl, ?_⟩) hHeld ?_
  rotate_left
  · (intro wq hSw; (try dsimp only at hSw); first | (go_simp; done) | (go_simp; with_reducible rfl))
  try simp only [Act.put, qa, qb, qc]
  refine wpAnyH_take (i := 8) (oi := { dst := some 38, op := Op.fieldAddr 28 (.tmp 37) 1, type := 0, pos := "l09_jobs.go:167", after := #[⟨7, .data⟩], guard := none }) (v := ?_) rfl (by kernel_rfl) (by kernel_rfl) (by kernel_rfl) (fun _ _ _ h => h) (Or.inl ⟨by rfl, ?_⟩) hHeld ?_
  rotate_left
  · (intro wq hSw; (try dsimp only at hSw); first | (go_simp; done) | (go_simp; with_reducible rfl))
  try simp only [Act.put, qa, qb, qc]
  refine wpAnyH_take (i := 9) (oi := { dst := some 39, op := Op.load 24 (.tmp 38), type := 24, pos := "l09_jobs.go:167", after := #[⟨8, .data⟩], guard := none }) (v := ?_) rfl (by kernel_rfl) (by kernel_rfl) (by kernel_rfl) (fun _ _ _ h => h) (Or.inl ⟨by rfl, ?_⟩) hHeld ?_
  rotate_left
  · (intro wq hSw; (try dsimp only at hSw); first | (go_simp; done) | (go_simp; with_reducible rfl))
  try simp only [Act.put, qa, qb, qc]
  refine wpAnyH_take (i := 10) (oi := { dst := some 40, op := Op.move (.tmp 1), type := 3, pos := "l09_jobs.go:167", after := #[], guard := none }) (v := ?_) rfl (by kernel_rfl) (by kernel_rfl) (by kernel_rfl) (fun _ _ _ h => h) (Or.inl ⟨by rfl, ?_⟩) hHeld ?_
  rotate_left
  · (intro wq hSw; (try dsimp only at hSw); first | (go_simp; done) | (go_simp; with_reducible rfl))
  try simp only [Act.put, qa, qb, qc]
  refine wpAnyH_take (i := 11) (oi := { dst := some 41, op := Op.indexAddr 24 (.tmp 39) (.tmp 40), type := 0, pos := "l09_jobs.go:167", after := #[⟨9, .data⟩, ⟨10, .data⟩], guard := none }) (v := ?_) rfl (by kernel_rfl) (by kernel_rfl) (by kernel_rfl) (fun _ _ _ h => h) (Or.inl ⟨by rfl, ?_⟩) hHeld ?_
  rotate_left
  · (intro wq hSw; (try dsimp only at hSw); first | (go_simp; done) | (go_simp; with_reducible rfl))
  try simp only [Act.put, qa, qb, qc]
  refine wpAnyH_take (i := 12) (oi := { dst := some 42, op := Op.fieldAddr 35 (.tmp 41) 0, type := 0, pos := "l09_jobs.go:167", after := #[⟨11, .data⟩], guard := none }) (v := ?_) rfl (by kernel_rfl) (by kernel_rfl) (by kernel_rfl) (fun _ _ _ h => h) (Or.inl ⟨by rfl, ?_⟩) hHeld ?_
  rotate_left
  · (intro wq hSw; (try dsimp only at hSw); first | (go_simp; done) | (go_simp; with_reducible rfl))
  try simp only [Act.put, qa, qb, qc]
  refine wpAnyH_take (i := 14) (oi := { dst := some 44, op := Op.move (.tmp 5), type := 3, pos := "l09_jobs.go:167", after := #[], guard := none }) (v := ?_) rfl (by kernel_rfl) (by kernel_rfl) (by kernel_rfl) (fun _ _ _ h => h) (Or.inl ⟨by rfl, ?_⟩) hHeld ?_
  rotate_left
  · (intro wq hSw; (try dsimp only at hSw); first | (go_simp; done) | (go_simp; with_reducible rfl))
  try simp only [Act.put, qa, qb, qc]
  refine wpAnyH_take (i := 15) (oi := { dst := some 45, op := Op.binOp BinOp.sub 3 (.tmp 44) (.const (Value.int IntKind.i64 1)) 3, type := 3, pos := "l09_jobs.go:167", after := #[⟨14, .data⟩], guard := none }) (v := ?_) rfl (by kernel_rfl) (by kernel_rfl) (by kernel_rfl) (fun _ _ _ h => h) (Or.inl ⟨by rfl, ?_⟩) hHeld ?_
  rotate_left
  · (intro wq hSw; (try dsimp only at hSw); first | (go_simp; done) | (go_simp; with_reducible rfl))
  try simp only [Act.put, qa, qb, qc]
  refine wpAnyH_take (i := 18) (oi := { dst := some 48, op := Op.move (.tmp 0), type := 85, pos := "l09_jobs.go:167", after := #[], guard := none }) (v := ?_) rfl (by kernel_rfl) (by kernel_rfl) (by kernel_rfl) (fun _ _ _ h => h) (Or.inl ⟨by rfl, ?_⟩) hHeld ?_
  rotate_left
  · (intro wq hSw; (try dsimp only at hSw); first | (go_simp; done) | (go_simp; with_reducible rfl))
  try simp only [Act.put, qa, qb, qc]
  refine wpAnyH_take (i := 19) (oi := { dst := some 49, op := Op.nilCheck (.tmp 48), type := 0, pos := "l09_jobs.go:167", after := #[⟨18, .data⟩], guard := none }) (v := ?_) rfl (by kernel_rfl) (by kernel_rfl) (by kernel_rfl) (fun _ _ _ h => h) (Or.inl ⟨by rfl, ?_⟩) hHeld ?_
  rotate_left
  · (intro wq hSw; (try dsimp only at hSw); first | (go_simp; done) | (go_simp; with_reducible rfl))
  try simp only [Act.put, qa, qb, qc]
  refine wpAnyH_take (i := 20) (oi := { dst := some 50, op := Op.fieldAddr 28 (.tmp 49) 0, type := 0, pos := "l09_jobs.go:167", after := #[⟨19, .data⟩], guard := none }) (v := ?_) rfl (by kernel_rfl) (by kernel_rfl) (by kernel_rfl) (fun _ _ _ h => h) (Or.inl ⟨by rfl, ?_⟩) hHeld ?_
  rotate_left
  · (intro wq hSw; (try dsimp only at hSw); first | (go_simp; done) | (go_simp; with_reducible rfl))
  try simp only [Act.put, qa, qb, qc]
  refine wpAnyH_take (i := 21) (oi := { dst := some 51, op := Op.load 23 (.tmp 50), type := 23, pos := "l09_jobs.go:167", after := #[⟨20, .data⟩], guard := none }) (v := ?_) rfl (by kernel_rfl) (by kernel_rfl) (by kernel_rfl) (fun _ _ _ h => h) (Or.inl ⟨by rfl, ?_⟩) hHeld ?_
  rotate_left
  · (intro wq hSw; (try dsimp only at hSw); first | (go_simp; done) | (go_simp; with_reducible rfl))
  try simp only [Act.put, qa, qb, qc]
  refine wpAnyH_take (i := 22) (oi := { dst := some 52, op := Op.move (.tmp 6), type := 3, pos := "l09_jobs.go:167", after := #[], guard := none }) (v := ?_) rfl (by kernel_rfl) (by kernel_rfl) (by kernel_rfl) (fun _ _ _ h => h) (Or.inl ⟨by rfl, ?_⟩) hHeld ?_
  rotate_left
  · (intro wq hSw; (try dsimp only at hSw); first | (go_simp; done) | (go_simp; with_reducible rfl))
  try simp only [Act.put, qa, qb, qc]
  refine wpAnyH_take (i := 23) (oi := { dst := some 53, op := Op.indexAddr 23 (.tmp 51) (.tmp 52), type := 0, pos := "l09_jobs.go:167", after := #[⟨21, .data⟩, ⟨22, .data⟩], guard := none }) (v := ?_) rfl (by kernel_rfl) (by kernel_rfl) (by kernel_rfl) (fun _ _ _ h => h) (Or.inl ⟨by rfl, ?_⟩) hHeld ?_
  rotate_left
  · (intro wq hSw; (try dsimp only at hSw); first | (go_simp; done) | (go_simp; with_reducible rfl))
  try simp only [Act.put, qa, qb, qc]
  refine wpAnyH_take (i := 24) (oi := { dst := some 54, op := Op.fieldAddr 42 (.tmp 53) 1, type := 0, pos := "l09_jobs.go:167", after := #[⟨23, .data⟩], guard := none }) (v := ?_) rfl (by kernel_rfl) (by kernel_rfl) (by kernel_rfl) (fun _ _ _ h => h) (Or.inl ⟨by rfl, ?_⟩) hHeld ?_
  rotate_left
  · (intro wq hSw; (try dsimp only at hSw); first | (go_simp; done) | (go_simp; with_reducible rfl))
  try simp only [Act.put, qa, qb, qc]
  refine wpAnyH_take (i := 25) (oi := { dst := some 55, op := Op.load 26 (.tmp 54), type := 26, pos := "l09_jobs.go:167", after := #[⟨24, .data⟩], guard := none }) (v := ?_) rfl (by kernel_rfl) (by kernel_rfl) (by kernel_rfl) (fun _ _ _ h => h) (Or.inl ⟨by rfl, ?_⟩) hHeld ?_
  rotate_left
  · (intro wq hSw; (try dsimp only at hSw); first | (go_simp; done) | (go_simp; with_reducible rfl))
  try simp only [Act.put, qa, qb, qc]
  refine wpAnyH_ready (rs := [5, 13]) (by kernel_rfl) (by simp) ?_
  refine AllReadyH.cons (o := { dst := some 35, op := Op.buildSlice 26 0 #[], type := 26, pos := "l09_jobs.go:167", after := #[], guard := none }) rfl (fun K hK => ?_) (AllReadyH.cons (o := { dst := some 43, op := Op.load 26 (.tmp 42), type := 26, pos := "l09_jobs.go:167", after := #[⟨12, .data⟩], guard := none }) rfl (fun K hK => ?_) (AllReadyH.nil))
  · go_simp
    obtain ⟨w5, hw5⟩ : ∃ x, x = (w.alloc (Obj.cells #[] 3)).drew := ⟨_, rfl⟩
    rw [← hw5]
    have hb5 := hide (show Below w.heap.size w w5 from by rw [hw5]; exact (below1 _ _).drew)
    have hq5 := hide (show Blk w5 w.heap.size 3 #[] from by rw [hw5]; exact (Blk.new w 3 #[]).below (Below.refl _ _).drew (Blk.new w 3 #[]).lt)
    have L5 := hide (show Lab f (9 + W * 2) B w w5 from .of_below hb5.out)
    have y13 := (hS.out w5 L5.out).2.1
    clear hw5
    refine hK.out _ _ ?_ (fun hHeldN => ?_)
    · exact (by first | exact (hS.out _ (Lab.refl _ _ _ _)).1 | exact (hS.out _ (Lab.refl _ _ _ _).drew).1 | exact (hS.out _ L5.out).1)
    clear hK K hHeld
    have hHeld := hHeldN
    clear hHeldN
    try simp only [Act.put, qa, qb, qc]
    refine wpAnyH_ready (rs := [13]) (by kernel_rfl) (by simp) ?_
    refine AllReadyH.cons (o := { dst := some 43, op := Op.load 26 (.tmp 42), type := 26, pos := "l09_jobs.go:167", after := #[⟨12, .data⟩], guard := none }) rfl (fun K hK => ?_) (AllReadyH.nil)
    · go_simp
      refine hK.out _ _ ?_ (fun hHeldN => ?_)
      · exact (by first | exact (hS.out _ (Lab.refl _ _ _ _)).1 | exact (hS.out _ (Lab.refl _ _ _ _).drew).1 | exact (hS.out _ L5.out).1)
      clear hK K hHeld
      have hHeld := hHeldN
      clear hHeldN
      try simp only [Act.put, qa, qb, qc]
      refine wpAnyH_take (i := 16) (oi := { dst := some 46, op := Op.slice 26 (.tmp 43) none (some (.tmp 45)) none, type := 26, pos := "l09_jobs.go:167", after := #[⟨13, .data⟩, ⟨15, .data⟩], guard := none }) (v := ?_) rfl (by kernel_rfl) (by kernel_rfl) (by kernel_rfl) (fun _ _ _ h => h) (Or.inl ⟨by rfl, ?_⟩) hHeld ?_
      rotate_left
      · (intro wq hSw; (try dsimp only at hSw); first | (go_simp; done) | (go_simp; with_reducible rfl))
      try simp only [Act.put, qa, qb, qc]
      refine wpAnyH_ready (rs := [17]) (by kernel_rfl) (by simp) ?_
      refine AllReadyH.cons (o := { dst := some 47, op := Op.call { callee := Callee.builtin Builtin.append, args := #[.tmp 35, .tmp 46], argTypes := #[26, 26] }, type := 26, pos := "l09_jobs.go:167", after := #[⟨5, .data⟩, ⟨16, .data⟩], guard := none }) rfl (fun K hK => ?_) (AllReadyH.nil)
      · rw [if_pos (by rfl)]
        refine wp_append_empty _ _ _ _ (by rfl) 3 i1 _ 1 8 Try.underlying26 hi1 hy0 hy1 hy2 rfl (by omega) w.heap.size (by rfl) (f := lab f w.heap.size (9 + W * 2)) (l := (9 + W * 2)) (B := B) hq5.out (lab_at _ _ _) hB (some ⟨qR, oR, none⟩) n cR (gI (getq p.dq W).dropLast) (by rfl) (hin.out w5 hb5.out) (by have : maxLen = 9223372036854775807 := rfl; omega) (by omega) ?_
        intro v6 w6 f6 hS6 hb6 hf6
        have hff6 := hide (show ∀ b, b < w.heap.size → f6 b = f b from fun b hb => (hf6 b (Nat.lt_of_lt_of_le hb hb5.out.size)).trans (lab_old hb))
        have L6 := hide (show Lab f (9 + W * 2) B w w6 from .of_below (below_then hb5.out hb6))
        have hk6 := hide (hkid.out w6 (below_then hb5.out hb6))
        have hB6 : B ≤ w6.heap.size := Nat.le_trans hB L6.out.size
        replace hS6 := hide hS6
        clear hb6 hf6
        refine hK.out _ _ ?_ (fun hHeldN => ?_)
        · exact (hS.out _ L6.out).1
        clear hK K hHeld
        have hHeld := hHeldN
        clear hHeldN
        try simp only [Act.put, qa, qb, qc]
        refine wpAnyH_ready (rs := [26]) (by kernel_rfl) (by simp) ?_
        refine AllReadyH.cons (o := { dst := some 56, op := Op.call { callee := Callee.builtin Builtin.append, args := #[.tmp 47, .tmp 55], argTypes := #[26, 26] }, type := 26, pos := "l09_jobs.go:167", after := #[⟨17, .data⟩, ⟨25, .data⟩, ⟨17, .chain⟩], guard := none }) rfl (fun K hK => ?_) (AllReadyH.nil)
        · rw [if_pos (by rfl)]
          refine wp_append_slv _ _ _ _ (by rfl) 3 i1 _ 1 8 Try.underlying26 hi1 hy0 hy1 hy2 rfl (by omega) v6 n (gI (getq p.dq W).dropLast) (by rfl) hS6.out AK (getj p.js J).ks.length cK (gI (getj p.js J).ks) (by rfl) hk6.out (by have : maxLen = 9223372036854775807 := rfl; omega) (by omega) hB6 ?_
          intro v7 w7 f7 hS7 hL7 hf7
          have L7 := hide (L6.out.then_ hff6.out hL7)
          have hff7 := hide (show ∀ b, b < w.heap.size → f7 b = f b from fun b hb => (hf7 b (Nat.lt_of_lt_of_le hb L6.out.size)).trans (hff6.out b hb))
          obtain ⟨A7, c7, hv7⟩ := hS7.form
          subst hv7
          replace hS7 := hide hS7
          obtain ⟨hSw7, y7, z7⟩ := hS.out w7 L7.out
          clear hL7 hf7 y13
          refine hK.out _ _ ?_ (fun hHeldN => ?_)
          · exact hSw7
          clear hK K hHeld
          have hHeld := hHeldN
          clear hHeldN
          try simp only [Act.put, qa, qb, qc]
          refine wpAnyH_take (i := 27) (oi := { dst := some 57, op := Op.indexAddr 24 (.tmp 33) (.tmp 34), type := 0, pos := "l09_jobs.go:167", after := #[⟨3, .data⟩, ⟨4, .data⟩, ⟨0, .phase⟩, ⟨1, .phase⟩, ⟨2, .phase⟩, ⟨3, .phase⟩, ⟨4, .phase⟩, ⟨5, .phase⟩, ⟨6, .phase⟩, ⟨7, .phase⟩, ⟨8, .phase⟩, ⟨9, .phase⟩, ⟨10, .phase⟩, ⟨11, .phase⟩, ⟨12, .phase⟩, ⟨13, .phase⟩, ⟨14, .phase⟩, ⟨15, .phase⟩, ⟨16, .phase⟩, ⟨17, .phase⟩, ⟨18, .phase⟩, ⟨19, .phase⟩, ⟨20, .phase⟩, ⟨21, .phase⟩, ⟨22, .phase⟩, ⟨23, .phase⟩, ⟨24, .phase⟩, ⟨25, .phase⟩, ⟨26, .phase⟩], guard := none }) (v := ?_) rfl (by kernel_rfl) (by kernel_rfl) (by kernel_rfl) (fun _ _ _ h => h) (Or.inl ⟨by rfl, ?_⟩) hHeld ?_
          rotate_left
          · (intro wq hSw; (try dsimp only at hSw); first | (go_simp; done) | (go_simp; with_reducible rfl))
          try simp only [Act.put, qa, qb, qc]
          refine wpAnyH_take (i := 28) (oi := { dst := some 58, op := Op.fieldAddr 35 (.tmp 57) 0, type := 0, pos := "l09_jobs.go:167", after := #[⟨27, .data⟩, ⟨0, .phase⟩, ⟨1, .phase⟩, ⟨2, .phase⟩, ⟨3, .phase⟩, ⟨4, .phase⟩, ⟨5, .phase⟩, ⟨6, .phase⟩, ⟨7, .phase⟩, ⟨8, .phase⟩, ⟨9, .phase⟩, ⟨10, .phase⟩, ⟨11, .phase⟩, ⟨12, .phase⟩, ⟨13, .phase⟩, ⟨14, .phase⟩, ⟨15, .phase⟩, ⟨16, .phase⟩, ⟨17, .phase⟩, ⟨18, .phase⟩, ⟨19, .phase⟩, ⟨20, .phase⟩, ⟨21, .phase⟩, ⟨22, .phase⟩, ⟨23, .phase⟩, ⟨24, .phase⟩, ⟨25, .phase⟩, ⟨26, .phase⟩], guard := none }) (v := ?_) rfl (by kernel_rfl) (by kernel_rfl) (by kernel_rfl) (fun _ _ _ h => h) (Or.inl ⟨by rfl, ?_⟩) hHeld ?_
          rotate_left
          · (intro wq hSw; (try dsimp only at hSw); first | (go_simp; done) | (go_simp; with_reducible rfl))
          try simp only [Act.put, qa, qb, qc]
          refine wpAnyH_ready (rs := [29]) (by kernel_rfl) (by simp) ?_
          refine AllReadyH.cons (o := { dst := none, op := Op.store 26 (.tmp 58) (.tmp 56), type := 0, pos := "l09_jobs.go:167", after := #[⟨28, .data⟩, ⟨26, .data⟩, ⟨26, .chain⟩, ⟨0, .phase⟩, ⟨1, .phase⟩, ⟨2, .phase⟩, ⟨3, .phase⟩, ⟨4, .phase⟩, ⟨5, .phase⟩, ⟨6, .phase⟩, ⟨7, .phase⟩, ⟨8, .phase⟩, ⟨9, .phase⟩, ⟨10, .phase⟩, ⟨11, .phase⟩, ⟨12, .phase⟩, ⟨13, .phase⟩, ⟨14, .phase⟩, ⟨15, .phase⟩, ⟨16, .phase⟩, ⟨17, .phase⟩, ⟨18, .phase⟩, ⟨19, .phase⟩, ⟨20, .phase⟩, ⟨21, .phase⟩, ⟨22, .phase⟩, ⟨23, .phase⟩, ⟨24, .phase⟩, ⟨25, .phase⟩, ⟨26, .phase⟩], guard := none }) rfl (fun K hK => ?_) (AllReadyH.nil)
          · go_simp
            refine hK.out _ _ ?_ (fun hHeldN => ?_)
            · exact ⟨cell_far hSw7.1 ngD, cell_far hSw7.2.1 ngD, cell_far hSw7.2.2 n0D⟩
            clear hK K hHeld
            have hHeld := hHeldN
            clear hHeldN
            try simp only [Act.put, qa, qb, qc]
            refine wpAnyH_done (by kernel_rfl) ?_ _
            clear hHeld
            have s1 := h.out.put_row hW L7.out hff7.out (hSr.out A7 c7 w7 f7 hS7.out) hD.out
            obtain ⟨w8, hw8⟩ : ∃ x, x = w7.setCell ⟨bD, oD + W, none⟩ (.slice A7 (n + (getj p.js J).ks.length) c7) := ⟨_, rfl⟩
            have hC8 := s1.1
            have hO8 := hide s1.2
            rw [← hw8] at hC8 hO8
            go_upto_region 6 with fail
            rw [← hw8]
            clear hw8 s1 hS7 L7 L6 L5 hSw7 y7 z7 xh zh xz hq5 hb5 hff6 hk6 hS6 hB6 hSr hS hin hkid x0 x1 xk
            obtain ⟨⟨-, -, y2, -, -, -, -⟩, yl⟩ := box7 hC8.box
            obtain ⟨b3, o3, c3, v3, f3, lb3, xd, zd⟩ := hC8.pool.ran.one (k := J) (by show J < p.ran.length; omega)
            rw [show x.R = .slice (some ⟨b3, o3, none⟩) p.ran.length c3 from v3] at y2
            replace y2 : w8.cell? ⟨g, 2, none⟩ = some (.slice (some ⟨b3, o3, none⟩) p.ran.length c3) := y2
            have s2 := hC8.set_ran (j := J) (by show J < p.ran.length; omega) v3 true
            replace v3 := hide v3
            clear hC8 f3 lb3
            go_upto_region 7 with fail
            obtain ⟨w9, hw9⟩ : ∃ x, x = w8.setCell ⟨b3, o3 + J, none⟩ (.bool true) := ⟨_, rfl⟩
            rw [← hw9] at s2 ⊢
            clear hw9 y2 xd zd yl
            obtain ⟨hC9, hL9⟩ := s2
            have hO9 := hide (hO8.out.then_ hff7.out (OwnC.of_lab hL9 (by omega)))
            clear hL9 hO8
            obtain ⟨⟨y0, -, -, -, y4, -, -⟩, yl⟩ := box7 hC9.box
            obtain ⟨b5, o5, c5, v5, f5, lb5, xl5, zl5⟩ := hC9.pool.lf.one (k := J) (by show J < p.lf.length; omega)
            rw [show x.F = .slice (some ⟨b5, o5, none⟩) p.lf.length c5 from v5] at y4
            replace y4 : w9.cell? ⟨g, 4, none⟩ = some (.slice (some ⟨b5, o5, none⟩) p.lf.length c5) := y4
            obtain ⟨b1, o1, c1, v1, f1, -, lb1, hL1⟩ := hC9.pool.jobs.heads.at_ (k := J * 2 + 1) (by show J * 2 + 1 < p.js.length * 2; omega)
            have xk1 := (hL1 (J * 2 + 1) (by show J * 2 + 1 < p.js.length * 2; omega)).1
            rw [gJob_k, ← Nat.add_assoc] at xk1
            rw [show x.L = .slice (some ⟨b1, o1, none⟩) p.js.length c1 from v1] at y0
            replace y0 : w9.cell? ⟨g, 0, none⟩ = some (.slice (some ⟨b1, o1, none⟩) p.js.length c1) := y0
            replace xk1 : w9.cell? ⟨b1, o1 + J * 2 + 1, none⟩ = some (x.kv J) := xk1
            rw [vK.out] at xk1
            have s3 := hC9.set_lf (j := J) (by show J < p.lf.length; omega) v5 ((getj p.js J).ks.length : Int)
            replace v5 := hide v5
            have fg9 := hC9.fg
            have ng5 : g ≠ b5 := fun e => by rw [← e] at f5; omega
            have n15 : b1 ≠ b5 := fun e => by rw [← e] at f5; omega
            clear hC9 lb5 lb1 hL1 v1
            refine wp_region_held_drew (S := (fun w' : World => w'.cell? ⟨g, 4, none⟩ = some (.slice (some ⟨b5, o5, none⟩) p.lf.length c5) ∧ w'.cell? ⟨g, 0, none⟩ = some (.slice (some ⟨b1, o1, none⟩) p.js.length c1) ∧ w'.cell? ⟨b1, o1 + J * 2 + 1, none⟩ = some (.slice AK (getj p.js J).ks.length cK))) (by kernel_rfl) ?_ (fun hHeld => ?_)
            · exact ⟨y4, y0, xk1⟩
            refine wpAnyH_take (i := 0) (oi := { dst := some 65, op := Op.move (.tmp 0), type := 85, pos := "l09_jobs.go:169", after := #[], guard := none }) (v := ?_) rfl (by kernel_rfl) (by kernel_rfl) (by kernel_rfl) (fun _ _ _ h => h) (Or.inl ⟨by rfl, ?_⟩) hHeld ?_
            rotate_left
            · (intro wq hSw; (try dsimp only at hSw); first | (go_simp; done) | (go_simp; with_reducible rfl))
            try simp only [Act.put, qa, qb, qc]
            refine wpAnyH_take (i := 1) (oi := { dst := some 66, op := Op.nilCheck (.tmp 65), type := 0, pos := "l09_jobs.go:169", after := #[⟨0, .data⟩], guard := none }) (v := ?_) rfl (by kernel_rfl) (by kernel_rfl) (by kernel_rfl) (fun _ _ _ h => h) (Or.inl ⟨by rfl, ?_⟩) hHeld ?_
            rotate_left
            · (intro wq hSw; (try dsimp only at hSw); first | (go_simp; done) | (go_simp; with_reducible rfl))
            try simp only [Act.put, qa, qb, qc]
            refine wpAnyH_take (i := 2) (oi := { dst := some 67, op := Op.fieldAddr 28 (.tmp 66) 4, type := 0, pos := "l09_jobs.go:169", after := #[⟨1, .data⟩], guard := none }) (v := ?_) rfl (by kernel_rfl) (by kernel_rfl) (by kernel_rfl) (fun _ _ _ h => h) (Or.inl ⟨by rfl, ?_⟩) hHeld ?_
            rotate_left
            · (intro wq hSw; (try dsimp only at hSw); first | (go_simp; done) | (go_simp; with_reducible rfl))
            try simp only [Act.put, qa, qb, qc]
            refine wpAnyH_take (i := 3) (oi := { dst := some 68, op := Op.load 26 (.tmp 67), type := 26, pos := "l09_jobs.go:169", after := #[⟨2, .data⟩], guard := none }) (v := ?_) rfl (by kernel_rfl) (by kernel_rfl) (by kernel_rfl) (fun _ _ _ h => h) (Or.inl ⟨by rfl, ?_⟩) hHeld ?_
            rotate_left
            · (intro wq hSw; (try dsimp only at hSw); first | (go_simp; done) | (go_simp; with_reducible rfl))
            try simp only [Act.put, qa, qb, qc]
            refine wpAnyH_take (i := 4) (oi := { dst := some 69, op := Op.move (.tmp 6), type := 3, pos := "l09_jobs.go:169", after := #[], guard := none }) (v := ?_) rfl (by kernel_rfl) (by kernel_rfl) (by kernel_rfl) (fun _ _ _ h => h) (Or.inl ⟨by rfl, ?_⟩) hHeld ?_
            rotate_left
            · (intro wq hSw; (try dsimp only at hSw); first | (go_simp; done) | (go_simp; with_reducible rfl))
            try simp only [Act.put, qa, qb, qc]
            refine wpAnyH_take (i := 5) (oi := { dst := some 70, op := Op.move (.tmp 0), type := 85, pos := "l09_jobs.go:169", after := #[], guard := none }) (v := ?_) rfl (by kernel_rfl) (by kernel_rfl) (by kernel_rfl) (fun _ _ _ h => h) (Or.inl ⟨by rfl, ?_⟩) hHeld ?_
            rotate_left
            · (intro wq hSw; (try dsimp only at hSw); first | (go_simp; done) | (go_simp; with_reducible rfl))
            try simp only [Act.put, qa, qb, qc]
            refine wpAnyH_take (i := 6) (oi := { dst := some 71, op := Op.nilCheck (.tmp 70), type := 0, pos := "l09_jobs.go:169", after := #[⟨5, .data⟩], guard := none }) (v := ?_) rfl (by kernel_rfl) (by kernel_rfl) (by kernel_rfl) (fun _ _ _ h => h) (Or.inl ⟨by rfl, ?_⟩) hHeld ?_
            rotate_left
            · (intro wq hSw; (try dsimp only at hSw); first | (go_simp; done) | (go_simp; with_reducible rfl))
            try simp only [Act.put, qa, qb, qc]
            refine wpAnyH_take (i := 7) (oi := { dst := some 72, op := Op.fieldAddr 28 (.tmp 71) 0, type := 0, pos := "l09_jobs.go:169", after := #[⟨6, .data⟩], guard := none }) (v := ?_) rfl (by kernel_rfl) (by kernel_rfl) (by kernel_rfl) (fun _ _ _ h => h) (Or.inl ⟨by rfl, ?_⟩) hHeld ?_
            rotate_left
            · (intro wq hSw; (try dsimp only at hSw); first | (go_simp; done) | (go_simp; with_reducible rfl))
            try simp only [Act.put, qa, qb, qc]
            refine wpAnyH_take (i := 8) (oi := { dst := some 73, op := Op.load 23 (.tmp 72), type := 23, pos := "l09_jobs.go:169", after := #[⟨7, .data⟩], guard := none }) (v := ?_) rfl (by kernel_rfl) (by kernel_rfl) (by kernel_rfl) (fun _ _ _ h => h) (Or.inl ⟨by rfl, ?_⟩) hHeld ?_
            rotate_left
            · (intro wq hSw; (try dsimp only at hSw); first | (go_simp; done) | (go_simp; with_reducible rfl))
            try simp only [Act.put, qa, qb, qc]
            refine wpAnyH_take (i := 9) (oi := { dst := some 74, op := Op.move (.tmp 6), type := 3, pos := "l09_jobs.go:169", after := #[], guard := none }) (v := ?_) rfl (by kernel_rfl) (by kernel_rfl) (by kernel_rfl) (fun _ _ _ h => h) (Or.inl ⟨by rfl, ?_⟩) hHeld ?_
            rotate_left
            · (intro wq hSw; (try dsimp only at hSw); first | (go_simp; done) | (go_simp; with_reducible rfl))
            try simp only [Act.put, qa, qb, qc]
            refine wpAnyH_take (i := 10) (oi := { dst := some 75, op := Op.indexAddr 23 (.tmp 73) (.tmp 74), type := 0, pos := "l09_jobs.go:169", after := #[⟨8, .data⟩, ⟨9, .data⟩], guard := none }) (v := ?_) rfl (by kernel_rfl) (by kernel_rfl) (by kernel_rfl) (fun _ _ _ h => h) (Or.inl ⟨by rfl, ?_⟩) hHeld ?_
            rotate_left
            · (intro wq hSw; (try dsimp only at hSw); first | (go_simp; done) | (go_simp; with_reducible rfl))
            try simp only [Act.put, qa, qb, qc]
            refine wpAnyH_take (i := 11) (oi := { dst := some 76, op := Op.fieldAddr 42 (.tmp 75) 1, type := 0, pos := "l09_jobs.go:169", after := #[⟨10, .data⟩], guard := none }) (v := ?_) rfl (by kernel_rfl) (by kernel_rfl) (by kernel_rfl) (fun _ _ _ h => h) (Or.inl ⟨by rfl, ?_⟩) hHeld ?_
            rotate_left
            · (intro wq hSw; (try dsimp only at hSw); first | (go_simp; done) | (go_simp; with_reducible rfl))
            try simp only [Act.put, qa, qb, qc]
            refine wpAnyH_take (i := 12) (oi := { dst := some 77, op := Op.load 26 (.tmp 76), type := 26, pos := "l09_jobs.go:169", after := #[⟨11, .data⟩], guard := none }) (v := ?_) rfl (by kernel_rfl) (by kernel_rfl) (by kernel_rfl) (fun _ _ _ h => h) (Or.inl ⟨by rfl, ?_⟩) hHeld ?_
            rotate_left
            · (intro wq hSw; (try dsimp only at hSw); first | (go_simp; done) | (go_simp; with_reducible rfl))
            try simp only [Act.put, qa, qb, qc]
            refine wpAnyH_take (i := 13) (oi := { dst := some 78, op := Op.call { callee := Callee.builtin Builtin.len, args := #[.tmp 77], argTypes := #[26] }, type := 3, pos := "l09_jobs.go:169", after := #[⟨12, .data⟩], guard := none }) (v := ?_) rfl (by kernel_rfl) (by kernel_rfl) (by kernel_rfl) (fun _ _ _ h => h) (Or.inl ⟨by rfl, ?_⟩) hHeld ?_
            rotate_left
            · (intro wq hSw; (try dsimp only at hSw); first | (go_simp; done) | (go_simp; with_reducible rfl))
            try simp only [Act.put, qa, qb, qc]
            refine wpAnyH_take (i := 14) (oi := { dst := some 79, op := Op.indexAddr 26 (.tmp 68) (.tmp 69), type := 0, pos := "l09_jobs.go:169", after := #[⟨3, .data⟩, ⟨4, .data⟩, ⟨0, .phase⟩, ⟨1, .phase⟩, ⟨2, .phase⟩, ⟨3, .phase⟩, ⟨4, .phase⟩, ⟨5, .phase⟩, ⟨6, .phase⟩, ⟨7, .phase⟩, ⟨8, .phase⟩, ⟨9, .phase⟩, ⟨10, .phase⟩, ⟨11, .phase⟩, ⟨12, .phase⟩, ⟨13, .phase⟩], guard := none }) (v := ?_) rfl (by kernel_rfl) (by kernel_rfl) (by kernel_rfl) (fun _ _ _ h => h) (Or.inl ⟨by rfl, ?_⟩) hHeld ?_
            rotate_left
            · (intro wq hSw; (try dsimp only at hSw); first | (go_simp; done) | (go_simp; with_reducible rfl))
            try simp only [Act.put, qa, qb, qc]
            refine wpAnyH_ready (rs := [15]) (by kernel_rfl) (by simp) ?_
            refine AllReadyH.cons (o := { dst := none, op := Op.store 3 (.tmp 79) (.tmp 78), type := 0, pos := "l09_jobs.go:169", after := #[⟨14, .data⟩, ⟨13, .data⟩, ⟨0, .phase⟩, ⟨1, .phase⟩, ⟨2, .phase⟩, ⟨3, .phase⟩, ⟨4, .phase⟩, ⟨5, .phase⟩, ⟨6, .phase⟩, ⟨7, .phase⟩, ⟨8, .phase⟩, ⟨9, .phase⟩, ⟨10, .phase⟩, ⟨11, .phase⟩, ⟨12, .phase⟩, ⟨13, .phase⟩], guard := none }) rfl (fun K hK => ?_) AllReadyH.nil
            go_simp
            skip
            refine hK.out _ _ ?_ (fun hHeldN => ?_)
            · exact ⟨cell_drew (cell_far y4 ng5), cell_drew (cell_far y0 ng5), cell_drew (cell_far xk1 n15)⟩
            clear hK K hHeld
            have hHeld := hHeldN
            clear hHeldN
            try simp only [Act.put, qa, qb, qc]
            refine wpAnyH_done (by kernel_rfl) ?_ _
            clear hHeld
            go_upto_region 8 with fail
            obtain ⟨w10, hw10⟩ : ∃ x, x = (w9.setCell ⟨b5, o5 + J, none⟩ (.int .i64 ((getj p.js J).ks.length : Int))).drew := ⟨_, rfl⟩
            have hC10 := s3.1.drew
            have hO10 := hide ((hO9.out.then_ hff7.out (OwnC.of_lab s3.2 (by omega))).trans (Chg.of_below (Below.refl _ _).drew))
            rw [← hw10] at hC10 hO10 ⊢
            clear hw10 y0 y4 xl5 zl5 yl xk1 s3 f5 f1 fg9 ng5 n15 hO9
            have hC : BoxO w10 f7 B g { x with rv := updV x.rv W (.slice A7 (n + (getj p.js J).ks.length) c7) } (ranP p W J r) := hC10
            obtain ⟨⟨y0, -, -, -, y4, -, -⟩, yl⟩ := box7 hC10.box
            obtain ⟨b5, o5, c5, v5, f5, lb5, xl5, zl5⟩ := hC10.pool.lf.one (k := J) (by show J < (p.lf.set J _).length; rw [List.length_set]; omega)
            rw [show x.F = .slice (some ⟨b5, o5, none⟩) (p.lf.set J _).length c5 from v5] at y4
            rw [List.length_set] at y4
            replace y4 : w10.cell? ⟨g, 4, none⟩ = some (.slice (some ⟨b5, o5, none⟩) p.lf.length c5) := y4
            replace xl5 : w10.cell? ⟨b5, o5 + J, none⟩ = some (.int .i64 ((getj p.js J).ks.length : Int)) := by
              refine xl5.trans ?_
              rw [gI_set ((getj p.js J).ks.length : Int) (show J < p.lf.length by omega), if_pos rfl]
            replace y0 : w10.cell? ⟨g, 0, none⟩ = some x.L := y0
            rw [v0.out] at y0
            have hJO := hide (hC.pool.jobs.at_ v0.out)
            replace hC := hide hC
            clear hC10 v5 f5 lb5 zl5
            obtain ⟨m, hm⟩ : ∃ m, m = (getj p.js J).ks.length := ⟨_, rfl⟩
            rw [← hm] at xl5 hT hTk
            replace hm := hide hm
            by_cases hm0 : m = 0
            · have hTk2 := hTk.out
              rw [if_pos hm0] at hTk2
              have hT2 := hide (show takeP p W = finP (J + 1) (ranP p W J r) J from by rw [hT.out, if_pos hm0])
              have hTr := hI.out.tree
              have kP := hide (sparents_any (some ⟨b0, o0, none⟩) p.js c0 _ w10 hTr hsz.out (fun _ h => h.2) hJO.out)
              subst hm0
              replace hTk2 := hide hTk2
              replace hTr := hide hTr
              go_wp2_with (first
                | (go_at_call 105; refine kP.out.mono ?_; rintro e w11 ⟨rfl, hF, hb⟩; replace hC := hide ((hC.out.relab (f' := lab f7 w10.heap.size 0) (fun b hl => lab_old hl)).next hb); replace hF := hide hF; replace hb := hide hb)
                | (go_at_call 104; refine (sfinish_any (lab f7 w10.heap.size 0) B g w10.heap.size _ (J + 1) (ranP p W J r) J w11 (by omega) hTk2 hsz hC hF (lab_at _ _ _)).mono ?_; rintro e w12 ⟨rfl, hC12, hO12⟩; replace hC12 := hide hC12; replace hO12 := hide hO12))
              go_ret
              have hff9 : ∀ b, b < w.heap.size → lab f7 w10.heap.size 0 b = f b := fun b hb' => (lab_old (Nat.lt_of_lt_of_le hb' hO10.out.size)).trans (hff7.out b hb')
              refine ⟨rfl, lab f7 w10.heap.size 0, updV x.rv W (.slice A7 (n + (getj p.js J).ks.length) c7), ?_, (hO10.out.trans (Chg.of_below hb.out)).then_ hff9 hO12.out, hff9⟩
              rw [hT2.out]
              exact hC12.out
            · have hT2 := hide (show takeP p W = ranP p W J r from by rw [hT.out, if_neg hm0])
              have hmi : ¬ ((m : Int) = 0) := by omega
              have hmb : ((m : Int) == 0) = false := by simpa using hmi
              go_wp2_with fail
              go_ret
              refine ⟨rfl, f7, ⟨updV x.rv W (.slice A7 (n + (getj p.js J).ks.length) c7), ?_⟩, hO10.out, hff7.out⟩
              rw [hT2.out]
              exact hC.out
  · go_simp
    refine hK.out _ _ ?_ (fun hHeldN => ?_)
    · exact (by first | exact (hS.out _ (Lab.refl _ _ _ _)).1 | exact (hS.out _ (Lab.refl _ _ _ _).drew).1 | exact (hS.out _ L5.out).1)
    clear hK K hHeld
    have hHeld := hHeldN
    clear hHeldN
    try simp only [Act.put, qa, qb, qc]
    refine wpAnyH_take (i := 16) (oi := { dst := some 46, op := Op.slice 26 (.tmp 43) none (some (.tmp 45)) none, type := 26, pos := "l09_jobs.go:167", after := #[⟨13, .data⟩, ⟨15, .data⟩], guard := none }) (v := ?_) rfl (by kernel_rfl) (by kernel_rfl) (by kernel_rfl) (fun _ _ _ h => h) (Or.inl ⟨by rfl, ?_⟩) hHeld ?_
    rotate_left
    · (intro wq hSw; (try dsimp only at hSw); first | (go_simp; done) | (go_simp; with_reducible rfl))
    try simp only [Act.put, qa, qb, qc]
    refine wpAnyH_ready (rs := [5]) (by kernel_rfl) (by simp) ?_
    refine AllReadyH.cons (o := { dst := some 35, op := Op.buildSlice 26 0 #[], type := 26, pos := "l09_jobs.go:167", after := #[], guard := none }) rfl (fun K hK => ?_) (AllReadyH.nil)
    · go_simp
      obtain ⟨w5, hw5⟩ : ∃ x, x = (w.alloc (Obj.cells #[] 3)).drew := ⟨_, rfl⟩
      rw [← hw5]
      have hb5 := hide (show Below w.heap.size w w5 from by rw [hw5]; exact (below1 _ _).drew)
      have hq5 := hide (show Blk w5 w.heap.size 3 #[] from by rw [hw5]; exact (Blk.new w 3 #[]).below (Below.refl _ _).drew (Blk.new w 3 #[]).lt)
      have L5 := hide (show Lab f (9 + W * 2) B w w5 from .of_below hb5.out)
      have y13 := (hS.out w5 L5.out).2.1
      clear hw5
      refine hK.out _ _ ?_ (fun hHeldN => ?_)
      · exact (by first | exact (hS.out _ (Lab.refl _ _ _ _)).1 | exact (hS.out _ (Lab.refl _ _ _ _).drew).1 | exact (hS.out _ L5.out).1)
      clear hK K hHeld
      have hHeld := hHeldN
      clear hHeldN
      try simp only [Act.put, qa, qb, qc]
      refine wpAnyH_ready (rs := [17]) (by kernel_rfl) (by simp) ?_
      refine AllReadyH.cons (o := { dst := some 47, op := Op.call { callee := Callee.builtin Builtin.append, args := #[.tmp 35, .tmp 46], argTypes := #[26, 26] }, type := 26, pos := "l09_jobs.go:167", after := #[⟨5, .data⟩, ⟨16, .data⟩], guard := none }) rfl (fun K hK => ?_) (AllReadyH.nil)
      · rw [if_pos (by rfl)]
        refine wp_append_empty _ _ _ _ (by rfl) 3 i1 _ 1 8 Try.underlying26 hi1 hy0 hy1 hy2 rfl (by omega) w.heap.size (by rfl) (f := lab f w.heap.size (9 + W * 2)) (l := (9 + W * 2)) (B := B) hq5.out (lab_at _ _ _) hB (some ⟨qR, oR, none⟩) n cR (gI (getq p.dq W).dropLast) (by rfl) (hin.out w5 hb5.out) (by have : maxLen = 9223372036854775807 := rfl; omega) (by omega) ?_
        intro v6 w6 f6 hS6 hb6 hf6
        have hff6 := hide (show ∀ b, b < w.heap.size → f6 b = f b from fun b hb => (hf6 b (Nat.lt_of_lt_of_le hb hb5.out.size)).trans (lab_old hb))
        have L6 := hide (show Lab f (9 + W * 2) B w w6 from .of_below (below_then hb5.out hb6))
        have hk6 := hide (hkid.out w6 (below_then hb5.out hb6))
        have hB6 : B ≤ w6.heap.size := Nat.le_trans hB L6.out.size
        replace hS6 := hide hS6
        clear hb6 hf6
        refine hK.out _ _ ?_ (fun hHeldN => ?_)
        · exact (hS.out _ L6.out).1
        clear hK K hHeld
        have hHeld := hHeldN
        clear hHeldN
        try simp only [Act.put, qa, qb, qc]
        refine wpAnyH_ready (rs := [26]) (by kernel_rfl) (by simp) ?_
        refine AllReadyH.cons (o := { dst := some 56, op := Op.call { callee := Callee.builtin Builtin.append, args := #[.tmp 47, .tmp 55], argTypes := #[26, 26] }, type := 26, pos := "l09_jobs.go:167", after := #[⟨17, .data⟩, ⟨25, .data⟩, ⟨17, .chain⟩], guard := none }) rfl (fun K hK => ?_) (AllReadyH.nil)
        · rw [if_pos (by rfl)]
          refine wp_append_slv _ _ _ _ (by rfl) 3 i1 _ 1 8 Try.underlying26 hi1 hy0 hy1 hy2 rfl (by omega) v6 n (gI (getq p.dq W).dropLast) (by rfl) hS6.out AK (getj p.js J).ks.length cK (gI (getj p.js J).ks) (by rfl) hk6.out (by have : maxLen = 9223372036854775807 := rfl; omega) (by omega) hB6 ?_
          intro v7 w7 f7 hS7 hL7 hf7
          have L7 := hide (L6.out.then_ hff6.out hL7)
          have hff7 := hide (show ∀ b, b < w.heap.size → f7 b = f b from fun b hb => (hf7 b (Nat.lt_of_lt_of_le hb L6.out.size)).trans (hff6.out b hb))
          obtain ⟨A7, c7, hv7⟩ := hS7.form
          subst hv7
          replace hS7 := hide hS7
          obtain ⟨hSw7, y7, z7⟩ := hS.out w7 L7.out
          clear hL7 hf7 y13
          refine hK.out _ _ ?_ (fun hHeldN => ?_)
          · exact hSw7
          clear hK K hHeld
          have hHeld := hHeldN
          clear hHeldN
          try simp only [Act.put, qa, qb, qc]
          refine wpAnyH_take (i := 27) (oi := { dst := some 57, op := Op.indexAddr 24 (.tmp 33) (.tmp 34), type := 0, pos := "l09_jobs.go:167", after := #[⟨3, .data⟩, ⟨4, .data⟩, ⟨0, .phase⟩, ⟨1, .phase⟩, ⟨2, .phase⟩, ⟨3, .phase⟩, ⟨4, .phase⟩, ⟨5, .phase⟩, ⟨6, .phase⟩, ⟨7, .phase⟩, ⟨8, .phase⟩, ⟨9, .phase⟩, ⟨10, .phase⟩, ⟨11, .phase⟩, ⟨12, .phase⟩, ⟨13, .phase⟩, ⟨14, .phase⟩, ⟨15, .phase⟩, ⟨16, .phase⟩, ⟨17, .phase⟩, ⟨18, .phase⟩, ⟨19, .phase⟩, ⟨20, .phase⟩, ⟨21, .phase⟩, ⟨22, .phase⟩, ⟨23, .phase⟩, ⟨24, .phase⟩, ⟨25, .phase⟩, ⟨26, .phase⟩], guard := none }) (v := ?_) rfl (by kernel_rfl) (by kernel_rfl) (by kernel_rfl) (fun _ _ _ h => h) (Or.inl ⟨by rfl, ?_⟩) hHeld ?_
          rotate_left
          · (intro wq hSw; (try dsimp only at hSw); first | (go_simp; done) | (go_simp; with_reducible rfl))
          try simp only [Act.put, qa, qb, qc]
          refine wpAnyH_take (i := 28) (oi := { dst := some 58, op := Op.fieldAddr 35 (.tmp 57) 0, type := 0, pos := "l09_jobs.go:167", after := #[⟨27, .data⟩, ⟨0, .phase⟩, ⟨1, .phase⟩, ⟨2, .phase⟩, ⟨3, .phase⟩, ⟨4, .phase⟩, ⟨5, .phase⟩, ⟨6, .phase⟩, ⟨7, .phase⟩, ⟨8, .phase⟩, ⟨9, .phase⟩, ⟨10, .phase⟩, ⟨11, .phase⟩, ⟨12, .phase⟩, ⟨13, .phase⟩, ⟨14, .phase⟩, ⟨15, .phase⟩, ⟨16, .phase⟩, ⟨17, .phase⟩, ⟨18, .phase⟩, ⟨19, .phase⟩, ⟨20, .phase⟩, ⟨21, .phase⟩, ⟨22, .phase⟩, ⟨23, .phase⟩, ⟨24, .phase⟩, ⟨25, .phase⟩, ⟨26, .phase⟩], guard := none }) (v := ?_) rfl (by kernel_rfl) (by kernel_rfl) (by kernel_rfl) (fun _ _ _ h => h) (Or.inl ⟨by rfl, ?_⟩) hHeld ?_
          rotate_left
          · (intro wq hSw; (try dsimp only at hSw); first | (go_simp; done) | (go_simp; with_reducible rfl))
          try simp only [Act.put, qa, qb, qc]
          refine wpAnyH_ready (rs := [29]) (by kernel_rfl) (by simp) ?_
          refine AllReadyH.cons (o := { dst := none, op := Op.store 26 (.tmp 58) (.tmp 56), type := 0, pos := "l09_jobs.go:167", after := #[⟨28, .data⟩, ⟨26, .data⟩, ⟨26, .chain⟩, ⟨0, .phase⟩, ⟨1, .phase⟩, ⟨2, .phase⟩, ⟨3, .phase⟩, ⟨4, .phase⟩, ⟨5, .phase⟩, ⟨6, .phase⟩, ⟨7, .phase⟩, ⟨8, .phase⟩, ⟨9, .phase⟩, ⟨10, .phase⟩, ⟨11, .phase⟩, ⟨12, .phase⟩, ⟨13, .phase⟩, ⟨14, .phase⟩, ⟨15, .phase⟩, ⟨16, .phase⟩, ⟨17, .phase⟩, ⟨18, .phase⟩, ⟨19, .phase⟩, ⟨20, .phase⟩, ⟨21, .phase⟩, ⟨22, .phase⟩, ⟨23, .phase⟩, ⟨24, .phase⟩, ⟨25, .phase⟩, ⟨26, .phase⟩], guard := none }) rfl (fun K hK => ?_) (AllReadyH.nil)
          · go_simp
            refine hK.out _ _ ?_ (fun hHeldN => ?_)
            · exact ⟨cell_far hSw7.1 ngD, cell_far hSw7.2.1 ngD, cell_far hSw7.2.2 n0D⟩
            clear hK K hHeld
            have hHeld := hHeldN
            clear hHeldN
            try simp only [Act.put, qa, qb, qc]
            refine wpAnyH_done (by kernel_rfl) ?_ _
            clear hHeld
            have s1 := h.out.put_row hW L7.out hff7.out (hSr.out A7 c7 w7 f7 hS7.out) hD.out
            obtain ⟨w8, hw8⟩ : ∃ x, x = w7.setCell ⟨bD, oD + W, none⟩ (.slice A7 (n + (getj p.js J).ks.length) c7) := ⟨_, rfl⟩
            have hC8 := s1.1
            have hO8 := hide s1.2
            rw [← hw8] at hC8 hO8
            go_upto_region 6 with fail
            rw [← hw8]
            clear hw8 s1 hS7 L7 L6 L5 hSw7 y7 z7 xh zh xz hq5 hb5 hff6 hk6 hS6 hB6 hSr hS hin hkid x0 x1 xk
            obtain ⟨⟨-, -, y2, -, -, -, -⟩, yl⟩ := box7 hC8.box
            obtain ⟨b3, o3, c3, v3, f3, lb3, xd, zd⟩ := hC8.pool.ran.one (k := J) (by show J < p.ran.length; omega)
            rw [show x.R = .slice (some ⟨b3, o3, none⟩) p.ran.length c3 from v3] at y2
            replace y2 : w8.cell? ⟨g, 2, none⟩ = some (.slice (some ⟨b3, o3, none⟩) p.ran.length c3) := y2
            have s2 := hC8.set_ran (j := J) (by show J < p.ran.length; omega) v3 true
            replace v3 := hide v3
            clear hC8 f3 lb3
            go_upto_region 7 with fail
            obtain ⟨w9, hw9⟩ : ∃ x, x = w8.setCell ⟨b3, o3 + J, none⟩ (.bool true) := ⟨_, rfl⟩
            rw [← hw9] at s2 ⊢
            clear hw9 y2 xd zd yl
            obtain ⟨hC9, hL9⟩ := s2
            have hO9 := hide (hO8.out.then_ hff7.out (OwnC.of_lab hL9 (by omega)))
            clear hL9 hO8
            obtain ⟨⟨y0, -, -, -, y4, -, -⟩, yl⟩ := box7 hC9.box
            obtain ⟨b5, o5, c5, v5, f5, lb5, xl5, zl5⟩ := hC9.pool.lf.one (k := J) (by show J < p.lf.length; omega)
            rw [show x.F = .slice (some ⟨b5, o5, none⟩) p.lf.length c5 from v5] at y4
            replace y4 : w9.cell? ⟨g, 4, none⟩ = some (.slice (some ⟨b5, o5, none⟩) p.lf.length c5) := y4
            obtain ⟨b1, o1, c1, v1, f1, -, lb1, hL1⟩ := hC9.pool.jobs.heads.at_ (k := J * 2 + 1) (by show J * 2 + 1 < p.js.length * 2; omega)
            have xk1 := (hL1 (J * 2 + 1) (by show J * 2 + 1 < p.js.length * 2; omega)).1
            rw [gJob_k, ← Nat.add_assoc] at xk1
            rw [show x.L = .slice (some ⟨b1, o1, none⟩) p.js.length c1 from v1] at y0
            replace y0 : w9.cell? ⟨g, 0, none⟩ = some (.slice (some ⟨b1, o1, none⟩) p.js.length c1) := y0
            replace xk1 : w9.cell? ⟨b1, o1 + J * 2 + 1, none⟩ = some (x.kv J) := xk1
            rw [vK.out] at xk1
            have s3 := hC9.set_lf (j := J) (by show J < p.lf.length; omega) v5 ((getj p.js J).ks.length : Int)
            replace v5 := hide v5
            have fg9 := hC9.fg
            have ng5 : g ≠ b5 := fun e => by rw [← e] at f5; omega
            have n15 : b1 ≠ b5 := fun e => by rw [← e] at f5; omega
            clear hC9 lb5 lb1 hL1 v1
            refine wp_region_held_drew (S := (fun w' : World => w'.cell? ⟨g, 4, none⟩ = some (.slice (some ⟨b5, o5, none⟩) p.lf.length c5) ∧ w'.cell? ⟨g, 0, none⟩ = some (.slice (some ⟨b1, o1, none⟩) p.js.length c1) ∧ w'.cell? ⟨b1, o1 + J * 2 + 1, none⟩ = some (.slice AK (getj p.js J).ks.length cK))) (by kernel_rfl) ?_ (fun hHeld => ?_)
            · exact ⟨y4, y0, xk1⟩
            refine wpAnyH_take (i := 0) (oi := { dst := some 65, op := Op.move (.tmp 0), type := 85, pos := "l09_jobs.go:169", after := #[], guard := none }) (v := ?_) rfl (by kernel_rfl) (by kernel_rfl) (by kernel_rfl) (fun _ _ _ h => h) (Or.inl ⟨by rfl, ?_⟩) hHeld ?_
            rotate_left
            · (intro wq hSw; (try dsimp only at hSw); first | (go_simp; done) | (go_simp; with_reducible rfl))
            try simp only [Act.put, qa, qb, qc]
            refine wpAnyH_take (i := 1) (oi := { dst := some 66, op := Op.nilCheck (.tmp 65), type := 0, pos := "l09_jobs.go:169", after := #[⟨0, .data⟩], guard := none }) (v := ?_) rfl (by kernel_rfl) (by kernel_rfl) (by kernel_rfl) (fun _ _ _ h => h) (Or.inl ⟨by rfl, ?_⟩) hHeld ?_
            rotate_left
            · (intro wq hSw; (try dsimp only at hSw); first | (go_simp; done) | (go_simp; with_reducible rfl))
            try simp only [Act.put, qa, qb, qc]
            refine wpAnyH_take (i := 2) (oi := { dst := some 67, op := Op.fieldAddr 28 (.tmp 66) 4, type := 0, pos := "l09_jobs.go:169", after := #[⟨1, .data⟩], guard := none }) (v := ?_) rfl (by kernel_rfl) (by kernel_rfl) (by kernel_rfl) (fun _ _ _ h => h) (Or.inl ⟨by rfl, ?_⟩) hHeld ?_
            rotate_left
            · (intro wq hSw; (try dsimp only at hSw); first | (go_simp; done) | (go_simp; with_reducible rfl))
            try simp only [Act.put, qa, qb, qc]
            refine wpAnyH_take (i := 3) (oi := { dst := some 68, op := Op.load 26 (.tmp 67), type := 26, pos := "l09_jobs.go:169", after := #[⟨2, .data⟩], guard := none }) (v := ?_) rfl (by kernel_rfl) (by kernel_rfl) (by kernel_rfl) (fun _ _ _ h => h) (Or.inl ⟨by rfl, ?_⟩) hHeld ?_
            rotate_left
            · (intro wq hSw; (try dsimp only at hSw); first | (go_simp; done) | (go_simp; with_reducible rfl))
            try simp only [Act.put, qa, qb, qc]
            refine wpAnyH_take (i := 4) (oi := { dst := some 69, op := Op.move (.tmp 6), type := 3, pos := "l09_jobs.go:169", after := #[], guard := none }) (v := ?_) rfl (by kernel_rfl) (by kernel_rfl) (by kernel_rfl) (fun _ _ _ h => h) (Or.inl ⟨by rfl, ?_⟩) hHeld ?_
            rotate_left
            · (intro wq hSw; (try dsimp only at hSw); first | (go_simp; done) | (go_simp; with_reducible rfl))
            try simp only [Act.put, qa, qb, qc]
            refine wpAnyH_take (i := 5) (oi := { dst := some 70, op := Op.move (.tmp 0), type := 85, pos := "l09_jobs.go:169", after := #[], guard := none }) (v := ?_) rfl (by kernel_rfl) (by kernel_rfl) (by kernel_rfl) (fun _ _ _ h => h) (Or.inl ⟨by rfl, ?_⟩) hHeld ?_
            rotate_left
            · (intro wq hSw; (try dsimp only at hSw); first | (go_simp; done) | (go_simp; with_reducible rfl))
            try simp only [Act.put, qa, qb, qc]
            refine wpAnyH_take (i := 6) (oi := { dst := some 71, op := Op.nilCheck (.tmp 70), type := 0, pos := "l09_jobs.go:169", after := #[⟨5, .data⟩], guard := none }) (v := ?_) rfl (by kernel_rfl) (by kernel_rfl) (by kernel_rfl) (fun _ _ _ h => h) (Or.inl ⟨by rfl, ?_⟩) hHeld ?_
            rotate_left
            · (intro wq hSw; (try dsimp only at hSw); first | (go_simp; done) | (go_simp; with_reducible rfl))
            try simp only [Act.put, qa, qb, qc]
            refine wpAnyH_take (i := 7) (oi := { dst := some 72, op := Op.fieldAddr 28 (.tmp 71) 0, type := 0, pos := "l09_jobs.go:169", after := #[⟨6, .data⟩], guard := none }) (v := ?_) rfl (by kernel_rfl) (by kernel_rfl) (by kernel_rfl) (fun _ _ _ h => h) (Or.inl ⟨by rfl, ?_⟩) hHeld ?_
            rotate_left
            · (intro wq hSw; (try dsimp only at hSw); first | (go_simp; done) | (go_simp; with_reducible rfl))
            try simp only [Act.put, qa, qb, qc]
            refine wpAnyH_take (i := 8) (oi := { dst := some 73, op := Op.load 23 (.tmp 72), type := 23, pos := "l09_jobs.go:169", after := #[⟨7, .data⟩], guard := none }) (v := ?_) rfl (by kernel_rfl) (by kernel_rfl) (by kernel_rfl) (fun _ _ _ h => h) (Or.inl ⟨by rfl, ?_⟩) hHeld ?_
            rotate_left
            · (intro wq hSw; (try dsimp only at hSw); first | (go_simp; done) | (go_simp; with_reducible rfl))
            try simp only [Act.put, qa, qb, qc]
            refine wpAnyH_take (i := 9) (oi := { dst := some 74, op := Op.move (.tmp 6), type := 3, pos := "l09_jobs.go:169", after := #[], guard := none }) (v := ?_) rfl (by kernel_rfl) (by kernel_rfl) (by kernel_rfl) (fun _ _ _ h => h) (Or.inl ⟨by rfl, ?_⟩) hHeld ?_
            rotate_left
            · (intro wq hSw; (try dsimp only at hSw); first | (go_simp; done) | (go_simp; with_reducible rfl))
            try simp only [Act.put, qa, qb, qc]
            refine wpAnyH_take (i := 10) (oi := { dst := some 75, op := Op.indexAddr 23 (.tmp 73) (.tmp 74), type := 0, pos := "l09_jobs.go:169", after := #[⟨8, .data⟩, ⟨9, .data⟩], guard := none }) (v := ?_) rfl (by kernel_rfl) (by kernel_rfl) (by kernel_rfl) (fun _ _ _ h => h) (Or.inl ⟨by rfl, ?_⟩) hHeld ?_
            rotate_left
            · (intro wq hSw; (try dsimp only at hSw); first | (go_simp; done) | (go_simp; with_reducible rfl))
            try simp only [Act.put, qa, qb, qc]
            refine wpAnyH_take (i := 11) (oi := { dst := some 76, op := Op.fieldAddr 42 (.tmp 75) 1, type := 0, pos := "l09_jobs.go:169", after := #[⟨10, .data⟩], guard := none }) (v := ?_) rfl (by kernel_rfl) (by kernel_rfl) (by kernel_rfl) (fun _ _ _ h => h) (Or.inl ⟨by rfl, ?_⟩) hHeld ?_
            rotate_left
            · (intro wq hSw; (try dsimp only at hSw); first | (go_simp; done) | (go_simp; with_reducible rfl))
            try simp only [Act.put, qa, qb, qc]
            refine wpAnyH_take (i := 12) (oi := { dst := some 77, op := Op.load 26 (.tmp 76), type := 26, pos := "l09_jobs.go:169", after := #[⟨11, .data⟩], guard := none }) (v := ?_) rfl (by kernel_rfl) (by kernel_rfl) (by kernel_rfl) (fun _ _ _ h => h) (Or.inl ⟨by rfl, ?_⟩) hHeld ?_
            rotate_left
            · (intro wq hSw; (try dsimp only at hSw); first | (go_simp; done) | (go_simp; with_reducible rfl))
            try simp only [Act.put, qa, qb, qc]
            refine wpAnyH_take (i := 13) (oi := { dst := some 78, op := Op.call { callee := Callee.builtin Builtin.len, args := #[.tmp 77], argTypes := #[26] }, type := 3, pos := "l09_jobs.go:169", after := #[⟨12, .data⟩], guard := none }) (v := ?_) rfl (by kernel_rfl) (by kernel_rfl) (by kernel_rfl) (fun _ _ _ h => h) (Or.inl ⟨by rfl, ?_⟩) hHeld ?_
            rotate_left
            · (intro wq hSw; (try dsimp only at hSw); first | (go_simp; done) | (go_simp; with_reducible rfl))
            try simp only [Act.put, qa, qb, qc]
            refine wpAnyH_take (i := 14) (oi := { dst := some 79, op := Op.indexAddr 26 (.tmp 68) (.tmp 69), type := 0, pos := "l09_jobs.go:169", after := #[⟨3, .data⟩, ⟨4, .data⟩, ⟨0, .phase⟩, ⟨1, .phase⟩, ⟨2, .phase⟩, ⟨3, .phase⟩, ⟨4, .phase⟩, ⟨5, .phase⟩, ⟨6, .phase⟩, ⟨7, .phase⟩, ⟨8, .phase⟩, ⟨9, .phase⟩, ⟨10, .phase⟩, ⟨11, .phase⟩, ⟨12, .phase⟩, ⟨13, .phase⟩], guard := none }) (v := ?_) rfl (by kernel_rfl) (by kernel_rfl) (by kernel_rfl) (fun _ _ _ h => h) (Or.inl ⟨by rfl, ?_⟩) hHeld ?_
            rotate_left
            · (intro wq hSw; (try dsimp only at hSw); first | (go_simp; done) | (go_simp; with_reducible rfl))
            try simp only [Act.put, qa, qb, qc]
            refine wpAnyH_ready (rs := [15]) (by kernel_rfl) (by simp) ?_
            refine AllReadyH.cons (o := { dst := none, op := Op.store 3 (.tmp 79) (.tmp 78), type := 0, pos := "l09_jobs.go:169", after := #[⟨14, .data⟩, ⟨13, .data⟩, ⟨0, .phase⟩, ⟨1, .phase⟩, ⟨2, .phase⟩, ⟨3, .phase⟩, ⟨4, .phase⟩, ⟨5, .phase⟩, ⟨6, .phase⟩, ⟨7, .phase⟩, ⟨8, .phase⟩, ⟨9, .phase⟩, ⟨10, .phase⟩, ⟨11, .phase⟩, ⟨12, .phase⟩, ⟨13, .phase⟩], guard := none }) rfl (fun K hK => ?_) AllReadyH.nil
            go_simp
            skip
            refine hK.out _ _ ?_ (fun hHeldN => ?_)
            · exact ⟨cell_drew (cell_far y4 ng5), cell_drew (cell_far y0 ng5), cell_drew (cell_far xk1 n15)⟩
            clear hK K hHeld
            have hHeld := hHeldN
            clear hHeldN
            try simp only [Act.put, qa, qb, qc]
            refine wpAnyH_done (by kernel_rfl) ?_ _
            clear hHeld
            go_upto_region 8 with fail
            obtain ⟨w10, hw10⟩ : ∃ x, x = (w9.setCell ⟨b5, o5 + J, none⟩ (.int .i64 ((getj p.js J).ks.length : Int))).drew := ⟨_, rfl⟩
            have hC10 := s3.1.drew
            have hO10 := hide ((hO9.out.then_ hff7.out (OwnC.of_lab s3.2 (by omega))).trans (Chg.of_below (Below.refl _ _).drew))
            rw [← hw10] at hC10 hO10 ⊢
            clear hw10 y0 y4 xl5 zl5 yl xk1 s3 f5 f1 fg9 ng5 n15 hO9
            have hC : BoxO w10 f7 B g { x with rv := updV x.rv W (.slice A7 (n + (getj p.js J).ks.length) c7) } (ranP p W J r) := hC10
            obtain ⟨⟨y0, -, -, -, y4, -, -⟩, yl⟩ := box7 hC10.box
            obtain ⟨b5, o5, c5, v5, f5, lb5, xl5, zl5⟩ := hC10.pool.lf.one (k := J) (by show J < (p.lf.set J _).length; rw [List.length_set]; omega)
            rw [show x.F = .slice (some ⟨b5, o5, none⟩) (p.lf.set J _).length c5 from v5] at y4
            rw [List.length_set] at y4
            replace y4 : w10.cell? ⟨g, 4, none⟩ = some (.slice (some ⟨b5, o5, none⟩) p.lf.length c5) := y4
            replace xl5 : w10.cell? ⟨b5, o5 + J, none⟩ = some (.int .i64 ((getj p.js J).ks.length : Int)) := by
              refine xl5.trans ?_
              rw [gI_set ((getj p.js J).ks.length : Int) (show J < p.lf.length by omega), if_pos rfl]
            replace y0 : w10.cell? ⟨g, 0, none⟩ = some x.L := y0
            rw [v0.out] at y0
            have hJO := hide (hC.pool.jobs.at_ v0.out)
            replace hC := hide hC
            clear hC10 v5 f5 lb5 zl5
            obtain ⟨m, hm⟩ : ∃ m, m = (getj p.js J).ks.length := ⟨_, rfl⟩
            rw [← hm] at xl5 hT hTk
            replace hm := hide hm
            by_cases hm0 : m = 0
            · have hTk2 := hTk.out
              rw [if_pos hm0] at hTk2
              have hT2 := hide (show takeP p W = finP (J + 1) (ranP p W J r) J from by rw [hT.out, if_pos hm0])
              have hTr := hI.out.tree
              have kP := hide (sparents_any (some ⟨b0, o0, none⟩) p.js c0 _ w10 hTr hsz.out (fun _ h => h.2) hJO.out)
              subst hm0
              replace hTk2 := hide hTk2
              replace hTr := hide hTr
              go_wp2_with (first
                | (go_at_call 105; refine kP.out.mono ?_; rintro e w11 ⟨rfl, hF, hb⟩; replace hC := hide ((hC.out.relab (f' := lab f7 w10.heap.size 0) (fun b hl => lab_old hl)).next hb); replace hF := hide hF; replace hb := hide hb)
                | (go_at_call 104; refine (sfinish_any (lab f7 w10.heap.size 0) B g w10.heap.size _ (J + 1) (ranP p W J r) J w11 (by omega) hTk2 hsz hC hF (lab_at _ _ _)).mono ?_; rintro e w12 ⟨rfl, hC12, hO12⟩; replace hC12 := hide hC12; replace hO12 := hide hO12))
              go_ret
              have hff9 : ∀ b, b < w.heap.size → lab f7 w10.heap.size 0 b = f b := fun b hb' => (lab_old (Nat.lt_of_lt_of_le hb' hO10.out.size)).trans (hff7.out b hb')
              refine ⟨rfl, lab f7 w10.heap.size 0, updV x.rv W (.slice A7 (n + (getj p.js J).ks.length) c7), ?_, (hO10.out.trans (Chg.of_below hb.out)).then_ hff9 hO12.out, hff9⟩
              rw [hT2.out]
              exact hC12.out
            · have hT2 := hide (show takeP p W = ranP p W J r from by rw [hT.out, if_neg hm0])
              have hmi : ¬ ((m : Int) = 0) := by omega
              have hmb : ((m : Int) == 0) = false := by simpa using hmi
              go_wp2_with fail
              go_ret
              refine ⟨rfl, f7, ⟨updV x.rv W (.slice A7 (n + (getj p.js J).ks.length) c7), ?_⟩, hO10.out, hff7.out⟩
              rw [hT2.out]
              exact hC.out
end Go.Proofs.Ytfnphnjadknoaaa
