/- A program of its own between two block numbers: the same, marked, the marks read. -/
import Derived.Test.YtjendjbbhohjcaaFenR
import Derived.Test.YtjendjbbhohjcaaEqP
import Derived.Test.YtjendjbbhohjcaaMkPr
import Derived.Test.YtjendjbbhohjcaaExD
import Derived.Test.YtjendjbbhohjcaaInnL
namespace Go.Proofs.Ytjendjbbhohjcaa
open Go.RowKit

theorem Blk.next {q : Nat} {t : TypeId} {cs : Array Value} {w w' : World} (h : Blk w q t cs) (hb : Below w.heap.size w w') : Blk w' q t cs := h.below hb h.lt
/-- A program of its own between two block numbers. -/
structure PrI (w : World) (lo hi : Nat) (q : ProgD) (v tv : Value) (vs : List Value) : Prop where
  own : ProgOwn w lo q.init v q.ts vs tv
  top : ∀ b, OwnS v tv vs q.ts.length b → b < hi
def markD (q : ProgD) : ProgD := ⟨marks 1 q.init.length, markTo q.ts (1 + q.init.length) q.ts.length⟩
def markM (q : ProgD) : Nat := 1 + q.init.length + insTo q.ts q.ts.length * 6
section
variable {w w' : World} {lo hi lo' hi' : Nat} {q : ProgD} {v tv v' tv' : Value} {vs vs' : List Value}
theorem PrI.of (h : ProgOwn w lo q.init v q.ts vs tv) : PrI w lo w.heap.size q v tv vs := ⟨h, fun _ hb => (h.own_lt hb).2⟩
theorem PrI.next (h : PrI w lo hi q v tv vs) (hb : Below w.heap.size w w') : PrI w' lo hi q v tv vs := ⟨h.own.keep (fun b _ hlt => hb.block b hlt), h.top⟩
theorem PrI.inn (h : PrI w lo hi q v tv vs) (hn : Inn lo' hi' w w') (ha : hi ≤ lo' ∨ hi' ≤ lo) : PrI w' lo hi q v tv vs :=
  ⟨h.own.sets (S := fun b => lo' ≤ b ∧ b < hi') ⟨hn.os, hn.tape, hn.output, hn.size, hn.block⟩ (fun b h1 h2 => by
    have h3 := h.top b h2
    have h4 := (h.own.own_lt h2).1
    omega), h.top⟩
theorem PrI.at_ (h : PrI w lo hi q v tv vs) : ProgAt w (Old w.heap.size) (.agg #[v, tv]) q := h.own.at_.more (fun _ k => k.2)
theorem PrI.eq (h : PrI w lo hi q v tv vs) (k : PrI w lo' hi' q v' tv' vs') :
    Calls Try.prog 44 #[.agg #[v, tv], .agg #[v', tv']] w fun e w' => e = .returned (.bool true) ∧ Below w.heap.size w w' :=
  eqProg_any _ _ q _ w (fun _ h => h) h.at_ k.at_
theorem PrI.mark (h : PrI w lo hi q v tv vs) (hz : progSize q ≤ 1048576) :
    Calls Try.prog 45 #[.agg #[v, tv], .int .i64 1] w fun e w' => e = .returned (.int .i64 (markM q : Int)) ∧ PrI w' lo hi (markD q) v tv vs ∧ Inn lo hi w w' := by
  refine (markProgO (k := 1) h.own hz (by omega)).mono ?_
  rintro e w' ⟨rfl, h1, h2⟩
  exact ⟨rfl, ⟨h1, fun b hb => h.top b (by unfold markD at hb; simp only [markTo_len] at hb; exact hb)⟩, ⟨h2.os, h2.tape, h2.output, h2.size, fun k hk hn => h2.block k hk (fun e => hn ⟨(h.own.own_lt e).1, h.top k e⟩)⟩⟩
theorem PrI.held (h : PrI w lo hi (markD q) v tv vs) (hz : progSize q ≤ 1048576) :
    Calls Try.prog 46 #[.agg #[v, tv], .int .i64 1] w fun e w' => e = .returned (.int .i64 (markM q : Int)) ∧ Below w.heap.size w w' :=
  heldProg_any _ q 1 _ w (fun _ h => h) hz (by omega) h.at_
theorem FenR.form {e : Ending} {ok : Bool} (h : FenR w w' e q ok) : ∃ A c A' c' vs, e = .returned (.tuple #[.agg #[.slice A q.init.length c, .slice A' q.ts.length c'], .bool ok]) ∧ PrI w' w.heap.size w'.heap.size q (.slice A q.init.length c) (.slice A' q.ts.length c') vs ∧ Below w.heap.size w w' := by
  obtain ⟨v, tv, vs, rfl, h1, h2⟩ := h
  obtain ⟨A, c, rfl, -⟩ := own_form h1.ints
  obtain ⟨A', c', rfl, -⟩ := own_form h1.rows
  exact ⟨A, c, A', c', vs, rfl, .of h1, h2⟩
end
theorem insTo_bound (ts : List (List InsD)) (B k : Nat) (h : ∀ j, j < ts.length → (gett ts j).length ≤ B) (hk : k ≤ ts.length) : insTo ts k ≤ k * B := by
  induction k with
  | zero => rw [insTo_zero]; omega
  | succ k ih =>
    have h1 := ih (by omega)
    have h2 := h k (by omega)
    rw [insTo_succ ts k (by omega), Nat.succ_mul]
    omega
end Go.Proofs.Ytjendjbbhohjcaa
