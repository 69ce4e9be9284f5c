/- slices.Backward over a row of jobs. -/
import Derived.Test.YtmhldlpjiepmpaaJbA
import Derived.RangeFuncNested
import Derived.RangeFuncBound
import Derived.RangeFuncCalls
import Derived.RangeFuncLeaves
import Derived.RangeFuncBox
import Derived.Shelf.Abstract
import Derived.Shelf.RegionOpen
import Derived.OwnWalkIn
import Derived.TacticsInMore
import Derived.LoopNIn
import Derived.LoopIn
namespace Go.Proofs.Ytmhldlpjiepmpaa
open Go.RowKit Go.Shelf

/-- The values of a row of jobs, as they lie. -/
structure JobVs (w : World) (S : Nat → Prop) (b off : Nat) (l : List JobD) (Af : Nat → Option Addr) (cf : Nat → Nat) : Prop where
  mem : 0 < l.length → S b
  val : ∀ k, k < l.length → w.cell? ⟨b, off + k * 2, none⟩ = some (.int .i64 (getj l k).v)
  kids : ∀ k, k < l.length → w.cell? ⟨b, off + k * 2 + 1, none⟩ = some (.slice (Af k) (getj l k).ks.length (cf k))
  ints : ∀ k, k < l.length → IntsAt w S (Af k) (getj l k).ks
theorem JobsAt.vs {w : World} {S : Nat → Prop} {A : Option Addr} {l : List JobD} (h : JobsAt w S A l) (h0 : 0 < l.length) : ∃ b off Af cf, A = some ⟨b, off, none⟩ ∧ S b ∧ JobVs w S b off l Af cf := by
  obtain ⟨b, off, e, hb, hc⟩ := h.2 h0
  have h1 : ∀ k : Nat, ∃ y : Option Addr × Nat, k < l.length → w.cell? ⟨b, off + k * 2, none⟩ = some (.int .i64 (getj l k).v) ∧ w.cell? ⟨b, off + k * 2 + 1, none⟩ = some (.slice y.1 (getj l k).ks.length y.2) ∧ IntsAt w S y.1 (getj l k).ks := fun k => by
    by_cases hk : k < l.length
    · obtain ⟨h1, A', c', h2, h3, h4⟩ := hc k hk
      exact ⟨(A', c'), fun _ => ⟨h1, h2, h4⟩⟩
    · exact ⟨(none, 0), fun h => absurd h hk⟩
  obtain ⟨f, hf⟩ := Classical.axiomOfChoice h1
  exact ⟨b, off, fun k => (f k).1, fun k => (f k).2, e, hb, fun _ => hb, fun k hk => (hf k hk).1, fun k hk => (hf k hk).2.1, fun k hk => (hf k hk).2.2⟩
theorem JobVs.below {w w' : World} {S : Nat → Prop} {B b off : Nat} {l : List JobD} {Af : Nat → Option Addr} {cf : Nat → Nat} (h : JobVs w S b off l Af cf) (hb : Below B w w') (hS : ∀ b, S b → b < B) : JobVs w' S b off l Af cf :=
  ⟨h.mem, fun k hk => (hb.cell (p := ⟨b, _, none⟩) (hS b (h.mem (by omega)))).trans (h.val k hk), fun k hk => (hb.cell (p := ⟨b, _, none⟩) (hS b (h.mem (by omega)))).trans (h.kids k hk), fun k hk => (h.ints k hk).below hb hS⟩
/-- The blocks of S are as they were. -/
def SameOn (S : Nat → Prop) (W W' : World) : Prop := ∀ b, S b → W'.heap[b]? = W.heap[b]?
theorem SameOn.refl (S : Nat → Prop) (W : World) : SameOn S W W := fun _ _ => rfl
theorem SameOn.trans {S : Nat → Prop} {A B C : World} (h : SameOn S A B) (k : SameOn S B C) : SameOn S A C := fun b hb => (k b hb).trans (h b hb)
theorem SameOn.of_below {S : Nat → Prop} {B : Nat} {W W' : World} (h : Below B W W') (hS : ∀ b, S b → b < B) : SameOn S W W' := fun b hb => h.block b (hS b hb)
theorem SameOn.putObj {S : Nat → Prop} {W : World} {l : Nat} (o : Obj) (hl : ¬ S l) : SameOn S W (W.putObj l o) := fun b hb => by
  have hne : b ≠ l := fun e => hl (by rw [← e]; exact hb)
  exact World.putObj_heap_other hne
theorem JobVs.same {w w' : World} {S : Nat → Prop} {b off : Nat} {l : List JobD} {Af : Nat → Option Addr} {cf : Nat → Nat} (h : JobVs w S b off l Af cf) (hk : SameOn S w w') : JobVs w' S b off l Af cf :=
  ⟨h.mem, fun k hl => (World.cell?_of_block (hk b (h.mem (by omega)))).trans (h.val k hl), fun k hl => (World.cell?_of_block (hk b (h.mem (by omega)))).trans (h.kids k hl), fun k hl => (h.ints k hl).keep (fun b' o hb => World.cell?_of_block (hk b' hb)) (fun _ h => h)⟩
/-- A job's value. -/
def jobV (l : List JobD) (Af : Nat → Option Addr) (cf : Nat → Nat) (k : Nat) : Value := .agg #[.int .i64 (getj l k).v, .slice (Af k) (getj l k).ks.length (cf k)]
/-- What has come behind k rounds. -/
def backTo (n k : Nat) : List Nat := (List.range k).map (fun j => n - 1 - j)
theorem backTo_succ (n k : Nat) : backTo n (k + 1) = backTo n k ++ [n - 1 - k] := by simp [backTo, List.range_succ]
theorem backTo_length (n k : Nat) : (backTo n k).length = k := by simp [backTo]

set_option maxHeartbeats 800000 in
theorem backward_any (A : Option Addr) (n c : Nat) (w : World) :
    Calls Try.prog 71 #[.slice A n c] w fun e w' => e = .returned (.func (.func 112) #[] #[.pointer (some ⟨w.heap.size, 0, none⟩)]) ∧ w' = w.alloc (.cells #[.slice A n c] 23) := by
  go_enter Try.func71, Try.ntmps71
  go_wp2_with fail
  go_ret
  exact ⟨rfl, rfl⟩

section
attribute [local go_sem] Oper.semAt_some

set_option maxRecDepth 100000 in
set_option maxHeartbeats 2000000 in
theorem backward1_in (F : Fence) (m : Nat) (h6 : F.fn 112) (hro : F.round = none) (hm : 1 ≤ m) (lp Bs : Nat) (S : Nat → Prop) (b off c : Nat) (l : List JobD) (Af : Nat → Option Addr) (cf : Nat → Nat) (hn2 : l.length ≤ 30) (J Jx : List { k : Nat // k < l.length } → World → Prop)
    (hY : ∀ pre (x : { k : Nat // k < l.length }) W, J pre W → pre.length < l.length → YieldAt F (m - 1) Try.prog lp #[.int .i64 (x.1 : Int), jobV l Af cf x.1] W fun e W' =>
      (e = .returned (.bool true) ∧ J (pre ++ [x]) W' ∧ SameOn S W W') ∨ (e = .returned (.bool false) ∧ Jx (pre ++ [x]) W'))
    (W : World) (hBs0 : S Bs) (hBs : W.cell? ⟨Bs, 0, none⟩ = some (.slice (some ⟨b, off, none⟩) l.length c)) (hS : JobVs W S b off l Af cf) (h0 : J [] W) :
    CallsIn F m Try.prog 112 #[.func (.yield lp) #[] #[], .pointer (some ⟨Bs, 0, none⟩)] W fun e W' => (∃ v, e = .returned v) ∧
      ((∃ ys, ys.map (·.1) = backTo l.length l.length ∧ J ys W') ∨ (∃ pre, (∃ k, k ≤ l.length ∧ pre.map (·.1) = backTo l.length k) ∧ Jx pre W')) := by
  refine callsIn_of_wp Try.func112 rfl h6 ?_ hro
  simp only [Try.ntmps112, List.size_toArray, List.length_cons, List.length_nil, Nat.reduceAdd, Nat.reduceSub, Array.replicate_succ, Array.replicate_zero, List.push_toArray, List.append_toArray, List.nil_append, List.cons_append]
  gi_wp2
  gi_loopw [3] (fun i wr => ∃ (r : Nat) (pre : List { k : Nat // k < l.length }), r ≤ l.length ∧ i = .int .i64 ((r : Int) - 1) ∧ Hid (pre.map (·.1) = backTo l.length (l.length - r)) ∧ J pre wr ∧ SameOn S W wr) (fun i _ => (intOf i + 1).toNat)
  case atStart => exact ⟨l.length, [], Nat.le_refl _, rfl, hide (by rw [Nat.sub_self]; rfl), h0, SameOn.refl _ _⟩
  case round =>
    obtain ⟨r, pre, hr, rfl, hpre, hJs, hnx⟩ := hrel
    have hbs := (World.cell?_of_block (a := ⟨Bs, 0, none⟩) (hnx Bs hBs0)).trans hBs
    rcases r with _ | r
    · gi_wp2
      go_end0
      exact ⟨⟨_, rfl⟩, .inl ⟨_, by simpa using hpre.out, hJs⟩⟩
    · have hv := (hS.same hnx).val r (by omega)
      have hk := (hS.same hnx).kids r (by omega)
      have hpl : pre.length = l.length - (r + 1) := by
        have := congrArg List.length hpre.out
        rwa [List.length_map, backTo_length] at this
      obtain ⟨fn, tmps, assign, body, hy, hR⟩ := hY _ ⟨r, by omega⟩ wr hJs (by omega)
      have e1 : ((r + 1 : Nat) : Int) - 1 = r := by omega
      simp only [jobV] at hy
      rw [e1]
      have hri : (r : Int) < (l.length : Int) := by omega
      have hP2 := hide (show (pre ++ [(⟨r, by omega⟩ : { k : Nat // k < l.length })]).map (·.1) = backTo l.length (l.length - r) from by
        rw [List.map_append, hpre.out, show l.length - r = l.length - (r + 1) + 1 by omega, backTo_succ]
        simp
        omega)
      replace hpl := hide hpl
      clear e1
      gi_wp2
      refine hR.mono ?_
      rintro e W3 (⟨rfl, hJ3, hk3⟩ | ⟨rfl, hJx3⟩)
      · gi_wp2
        go_roundw
        case rel => exact ⟨r, _, by omega, rfl, hP2, hJ3, hnx.trans hk3⟩
        case measure => simp [intOf]
      · gi_wp2
        refine bodyPost_ret (results_none rfl _ _ _) rfl ?_
        exact ⟨⟨_, rfl⟩, .inr ⟨_, ⟨l.length - r, by omega, hP2.out⟩, hJx3⟩⟩

theorem backward_stops (F : Fence) (m : Nat) (h6 : F.fn 112) (hro : F.round = none) (hm : 1 ≤ m) (Bs : Nat) (S : Nat → Prop) (b off c : Nat) (l : List JobD) (Af : Nat → Option Addr) (cf : Nat → Nat) (hn2 : l.length ≤ 30) (w : World) (hBs0 : S Bs) (hSw : ∀ b, S b → b < w.heap.size)
    (hBs : w.cell? ⟨Bs, 0, none⟩ = some (.slice (some ⟨b, off, none⟩) l.length c)) (hS : JobVs w S b off l Af cf) :
    SeqStopsK F m Try.prog 112 #[.pointer (some ⟨Bs, 0, none⟩)] (fun x : { k : Nat // k < l.length } => #[Value.int .i64 (x.1 : Int), jobV l Af cf x.1]) (SameOn S) (fun ys => ys.map (·.1) = backTo l.length l.length)
      (fun pre => ∃ k, k ≤ l.length ∧ pre.map (·.1) = backTo l.length k) l.length w := fun lp J Jx W hW _ _ hY h0 =>
  backward1_in F m h6 hro hm lp Bs S b off c l Af cf hn2 J Jx hY W hBs0 ((hW.cell (p := ⟨Bs, 0, none⟩) (hSw _ hBs0)).trans hBs) (hS.below hW hSw) h0
end
end Go.Proofs.Ytmhldlpjiepmpaa
