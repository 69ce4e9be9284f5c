/- The program's placeOf: the places are looked up once, by a sync.Once. -/
import Derived.Test.YtbhfkfapdpedpaaHstF
namespace Go.Proofs.Ytbhfkfapdpedpaa
open Go.RowKit
open Go.Maps (Keyed)

/-- Either nothing has been looked up yet, or the map of the places is there. -/
def HstS (w : World) (B q p : Nat) (A : Option Addr) (l : List PostD) : Prop := Hst w B q p A l 0 0 (.map none) ∨ ∃ g, q < g ∧ Hst w B q p A l 1 0 (.map (some g)) ∧ MapAt w g l l.length
theorem HstS.next {w w' : World} {B q p : Nat} {A : Option Addr} {l : List PostD} (h : HstS w B q p A l) (hb : Below w.heap.size w w') : HstS w' B q p A l := by
  rcases h with h | ⟨g, hg, h, hm⟩
  · exact .inl (h.next hb)
  · exact .inr ⟨g, hg, h.next hb, hm.kept (hb.block g hm.lt)⟩

section
variable {w : World} {B q p : Nat} {A : Option Addr} {l : List PostD} {d s : Int} {m : Value}
theorem Hst.set1 (h : Hst w B q p A l d s m) (d' : Int) : Hst (w.setCell ⟨q, 1, none⟩ (.int .u32 d')) B q p A l d' s m :=
  h.keep (fun b hb _ => Below.heap_setCell w ⟨q, 1, none⟩ _ b (by show b ≠ q; have := h.lo; omega)) (h.box.set_ 1 (.int .u32 d'))
theorem Hst.set2 (h : Hst w B q p A l d s m) (s' : Int) : Hst (w.setCell ⟨q, 2, none⟩ (.int .i32 s')) B q p A l d s' m :=
  h.keep (fun b hb _ => Below.heap_setCell w ⟨q, 2, none⟩ _ b (by show b ≠ q; have := h.lo; omega)) (h.box.set_ 2 (.int .i32 s'))
theorem MapAt.set {g k i : Nat} (h : MapAt w g l k) (hg : g ≠ q) (u : Value) : MapAt (w.setCell ⟨q, i, none⟩ u) g l k := h.kept (Below.heap_setCell w ⟨q, i, none⟩ u g hg)
end

set_option maxRecDepth 100000 in
set_option maxHeartbeats 3200000 in
/-- Once.doSlow, not yet done, the lock free, of findPlaces. -/
theorem slow_find (B q p : Nat) (A : Option Addr) (l : List PostD) (w : World) (hn2 : l.length ≤ 1048576) (hwf : IdsWf l) (hH : Hst w B q p A l 0 0 (.map none)) :
    Calls Try.prog 191 #[.pointer (some ⟨q, 1, none⟩), .func (.func 166) #[.pointer (some ⟨q, 0, none⟩)] #[]] w fun e w' => e = .returned (.tuple #[]) ∧ ∃ g, w.heap.size ≤ g ∧ Hst w' B q p A l 1 0 (.map (some g)) ∧ MapAt w' g l l.length ∧ Only q w w' := by
  have hqw := hH.box.lt
  have hH1 := hH.set2 1
  have hO1 : Only q w (w.setCell ⟨q, 2, none⟩ (.int .i32 1)) := (Only.refl q w).setCell (.inl rfl) _
  have kF := findPlaces_any B q p A l 1 _ hn2 hwf hH1
  obtain ⟨⟨e0, e1, e2, e4⟩, ⟨g1, g2, g4⟩, hq⟩ := hH1.cells
  have hl := run_call_load (P := Try.prog) Try.func199 (by kernel_rfl) (by kernel_rfl) (by kernel_rfl) .u32 (by kernel_rfl) (w := w.setCell ⟨q, 2, none⟩ (.int .i32 1)) (a := ⟨q, 1, none⟩) (x := 0) e1
  have kL := lock_free ⟨q, 2, none⟩ w hH.cells.1.2.2.1 (hH.box.frozen 2)
  have hnot : ∀ (x : Bool) (w : World), (Op.unary .not (.bool x)).run Try.prog w = .ok (.bool (!x)) w := fun _ _ => rfl
  replace kF := hide kF
  replace kL := hide kL
  replace hO1 := hide hO1
  clear hH hH1
  go_enter_defers Try.func191, Try.ntmps191
  go_wp2_with (go_at_call 200; refine kL.out.mono ?_; rintro e w' ⟨rfl, rfl⟩)
  go_wp2_with (first | (go_at_call 166; refine kF.out.mono ?_; rintro e w' ⟨rfl, g, hgz, hHg, hMg, hOg⟩) | (go_at_call 190; go_in))
  have hH2 := (hHg.drew).set1 1
  have hH3 := hH2.set2 0
  have hM3 := ((show MapAt w'.drew g l l.length from hMg).set (q := q) (i := 1) (by have := hHg.box.lt; simp at hgz; omega) (.int .u32 1)).set (q := q) (i := 2) (by simp at hgz; omega) (.int .i32 0)
  have hO3 : Only q w ((w'.drew.setCell ⟨q, 1, none⟩ (.int .u32 1)).setCell ⟨q, 2, none⟩ (.int .i32 0)) := (((hO1.out.trans hOg).drew).setCell (.inl rfl) _).setCell (.inl rfl) _
  have hgz2 : w.heap.size ≤ g := by simpa using hgz
  go_wp2
  refine leaves_cons (f := 202) (args := #[.pointer (some ⟨q, 1, none⟩), .bool true]) (by simp) (by simp [go_sem]) ?_
  refine (store_deferred ⟨q, 1, none⟩ (.int .u32 0) .returning _ hHg.cells.1.2.1 (hHg.box.frozen 1)).mono ?_
  rintro e u' w'' ⟨rfl, rfl, rfl⟩
  refine leaves_cons (f := 201) (args := #[.pointer (some ⟨q, 2, none⟩)]) (by simp [settle]) (by simp [go_sem]) ?_
  refine (unlock_deferred ⟨q, 2, none⟩ _ _ hH2.cells.1.2.2.1 (hH2.box.frozen 2)).mono ?_
  rintro e u' w'' ⟨rfl, rfl, rfl⟩
  simp [Leaves, settle, results, Try.results191]
  exact ⟨g, hgz2, hH3, hM3, hO3⟩

set_option maxRecDepth 100000 in
/-- Once.Do, not yet done, of findPlaces. -/
theorem do_find (B q p : Nat) (A : Option Addr) (l : List PostD) (w : World) (hn2 : l.length ≤ 1048576) (hwf : IdsWf l) (hH : Hst w B q p A l 0 0 (.map none)) :
    Calls Try.prog 165 #[.pointer (some ⟨q, 1, none⟩), .func (.func 166) #[.pointer (some ⟨q, 0, none⟩)] #[]] w fun e w' => e = .returned (.tuple #[]) ∧ ∃ g, w.heap.size ≤ g ∧ Hst w' B q p A l 1 0 (.map (some g)) ∧ MapAt w' g l l.length ∧ Only q w w' := by
  have hl := run_call_load (P := Try.prog) Try.func199 (by kernel_rfl) (by kernel_rfl) (by kernel_rfl) .u32 (by kernel_rfl) hH.cells.1.2.1
  have hnot : ∀ (x : Bool) (w : World), (Op.unary .not (.bool x)).run Try.prog w = .ok (.bool (!x)) w := fun _ _ => rfl
  have kS := hide (slow_find B q p A l w hn2 hwf hH)
  clear hH
  go_enter Try.func165, Try.ntmps165
  go_wp2_with (first | (go_at_call 191; refine kS.out.mono ?_; rintro e w' ⟨rfl, g, hgz, hHg, hMg, hOg⟩) | (go_at_call 190; go_in))
  go_end0
  exact ⟨rfl, g, hgz, hHg, hMg, hOg⟩

/-- What the map says, in the words of placeI. -/
theorem placed_has {l : List PostD} {D : DataW Unit} (h : Placed l l.length D) (i : Int) : (placeI l i = -1 ∧ Maps.has D (.int .i64 i) = false) ∨ ∃ k : Nat, k < l.length ∧ placeI l i = k ∧ Maps.has D (.int .i64 i) = true ∧ ∀ z, D.atKey (.int .i64 i) z = .lit (.int .i64 k) := by
  rcases h i with ⟨j, hj, h1, h2, h3, h4⟩ | ⟨h1, h2⟩
  · exact .inr ⟨j, hj, place_hit hj h1 h2, h3, h4⟩
  · exact .inl ⟨place_miss h1, h2⟩

/-- What placeOf hands back. -/
def PlaceR (w w' : World) (B q p : Nat) (A : Option Addr) (l : List PostD) (i : Int) (e : Ending) : Prop := e = .returned (.int .i64 (placeI l i)) ∧ HstS w' B q p A l ∧ Only q w w'

set_option maxRecDepth 100000 in
set_option maxHeartbeats 1600000 in
theorem hplaceOf_any (B q p : Nat) (A : Option Addr) (l : List PostD) (i : Int) (w : World) (hn2 : l.length ≤ 1048576) (hwf : IdsWf l) (hwi : (Lit.int .i64 i).wf = true) (hH : HstS w B q p A l) :
    Calls Try.prog 107 #[.pointer (some ⟨q, 0, none⟩), .int .i64 i] w fun e w' => PlaceR w w' B q p A l i e := by
  have kD : Calls Try.prog 165 #[.pointer (some ⟨q, 1, none⟩), .func (.func 166) #[.pointer (some ⟨q, 0, none⟩)] #[]] w fun e w' => e = .returned (.tuple #[]) ∧ ∃ g, q < g ∧ Hst w' B q p A l 1 0 (.map (some g)) ∧ MapAt w' g l l.length ∧ Only q w w' := by
    rcases hH with h | ⟨g, hg, h, hm⟩
    · refine (do_find B q p A l w hn2 hwf h).mono ?_
      rintro e w' ⟨rfl, g, hg, h1, h2, h3⟩
      exact ⟨rfl, g, by have := h.box.lt; omega, h1, h2, h3⟩
    · refine (do_done ⟨q, 1, none⟩ 1 (by decide) _ w h.cells.1.2.1).mono ?_
      rintro e w' ⟨rfl, rfl⟩
      exact ⟨rfl, g, hg, h, hm, Only.refl _ _⟩
  have hnot : ∀ (x : Bool) (w : World), (Op.unary .not (.bool x)).run Try.prog w = .ok (.bool (!x)) w := fun _ _ => rfl
  have hmf : ∀ (fn : Fn) (first cap : Array Value) (w : World), (Instr.makeFunc fn first cap).run Try.prog w = .ok (.func fn first cap) w := fun _ _ _ _ => rfl
  have hq : q < w.heap.size := by
    rcases hH with h | ⟨_, _, h, _⟩
    · exact h.box.lt
    · exact h.box.lt
  replace kD := hide kD
  clear hH
  go_enter Try.func107, Try.ntmps107
  go_wp2_with fail
  refine kD.out.mono ?_
  rintro e w1 ⟨rfl, g, hg, h1, ⟨D, hM, hP⟩, hO⟩
  obtain ⟨x, hx, hrun⟩ := look_all hM hwi
  replace hrun : (Instr.lookup 200 (.map (some g)) (.int .i64 i) true).run Try.prog w1 = .ok (.tuple #[.int .i64 x, .bool (Maps.has D (.int .i64 i))]) w1 := hrun 0
  obtain ⟨⟨-, -, -, c4⟩, -, hq1⟩ := h1.cells
  have hR : HstS w1 B q p A l := .inr ⟨g, hg, h1, ⟨D, hM, hP⟩⟩
  rcases placed_has hP i with ⟨hp, hh⟩ | ⟨k, hk, hp, hh, hz⟩
  · rw [hh] at hrun
    have hend := hide (show PlaceR w w1 B q p A l i (.returned (.int .i64 (-1))) from ⟨by rw [hp], hR, hO⟩)
    clear hR hO hP hM h1 hx hp hh kD
    go_wp2_with fail
    go_ret
    exact hend.out
  · rw [hh] at hrun
    rw [hz] at hx
    obtain rfl : (k : Int) = x := by cases hx; rfl
    have hend := hide (show PlaceR w w1 B q p A l i (.returned (.int .i64 (k : Int))) from ⟨by rw [hp], hR, hO⟩)
    clear hR hO hP hM h1 hx hp hh kD hz
    go_wp2_with fail
    go_ret
    exact hend.out
end Go.Proofs.Ytbhfkfapdpedpaa
