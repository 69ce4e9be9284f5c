/- laws.row: a history of three posts; laws.views: views are alive. -/
import Derived.Test.YtbhfkfapdpedpaaSameI
import Derived.Test.YtbhfkfapdpedpaaL4d
import Derived.Test.YtbhfkfapdpedpaaImRw
import Derived.Test.YtbhfkfapdpedpaaImVj
namespace Go.Proofs.Ytbhfkfapdpedpaa
open Go.RowKit

/-- Posts in blocks from lo on and below hi. -/
structure PoN (w : World) (lo hi : Nat) (A : Option Addr) (l : List PostD) : Prop where
  posts : PostsAt w (New lo hi) A l
  hi : hi ≤ w.heap.size
theorem PoN.next {w w' : World} {lo hi : Nat} {A : Option Addr} {l : List PostD} (h : PoN w lo hi A l) (hb : Below w.heap.size w w') : PoN w' lo hi A l :=
  ⟨h.posts.below hb (fun _ x => Nat.lt_of_lt_of_le x.2 h.hi), Nat.le_trans h.hi hb.size⟩
theorem PoN.src {w : World} {lo hi : Nat} {A : Option Addr} {l : List PostD} (h : PoN w lo hi A l) : PostsAt w (Old w.heap.size) A l := h.posts.more (fun _ x => Nat.lt_of_lt_of_le x.2 h.hi)
theorem hist1 {w : World} {T c : Nat} {A : Option Addr} {l : List PostD} (h : Blk w T 45 #[.slice A l.length c]) (hc : l.length ≤ c) (p : PostsAt w (Old w.heap.size) A l) : HistsAt w (Old w.heap.size) (some ⟨T, 0, none⟩) [l] :=
  ⟨by simp, fun _ => ⟨T, 0, rfl, h.lt, fun k hk => by
    match k, hk with
    | 0, _ => exact ⟨A, c, h.cell 0, hc, p⟩⟩⟩

/-- The posts of laws.row. -/
def rowL : List PostD := [⟨3, 0, false, []⟩, ⟨1, 0, false, []⟩, ⟨2, 0, true, []⟩]
theorem rowL_small : ∀ d ∈ rowL, SmallP d := by
  intro d hd
  simp only [rowL, List.mem_cons, List.not_mem_nil, or_false] at hd
  rcases hd with rfl | rfl | rfl
  all_goals exact ⟨by decide, by decide, rfl⟩
theorem rowL_wf : IdsWf rowL := smallP_wf rowL_small
theorem one_wf (x : Int) (h : (Lit.int .i64 x).wf = true) : IntsWf [x] := fun k hk => by
  match k, hk with
  | 0, _ => exact h

set_option maxRecDepth 100000 in
set_option maxHeartbeats 1600000 in
theorem row_any (w : World) : Calls Try.prog 106 #[] w fun e w' => ∃ A, e = .returned (.agg #[.slice A 3 3]) ∧ PoN w' w.heap.size w'.heap.size A rowL ∧ Below w.heap.size w w' := by
  go_enter Try.func106, Try.ntmps106
  go_wp2_with fail
  refine bodyPost_ret (v := .agg #[.slice (some ⟨w.heap.size + 1, 0, none⟩) 3 3]) (by simp [results, Try.results106, go_sem]; done) rfl ⟨_, rfl, ?_, ?_⟩
  · have h := own_row (w := w.alloc (Obj.cells #[Value.slice (some ⟨w.heap.size + 1, 0, none⟩) 3 3] 45)) (B := w.heap.size) (e := 47) (size := 4) (n := 3) (cs := (flatP rowL).toArray) (by simp) (by omega) (by decide)
    rw [World.size_alloc] at h
    obtain ⟨A', c', e, -, hp⟩ := own_posts h rowL_small
    cases e
    exact ⟨hp, Nat.le_refl _⟩
  · exact below2 _ _ _

theorem place1 (A : Option Addr) (w : World) (h : PostsAt w (Old w.heap.size) A rowL) : Calls Try.prog 34 #[.agg #[.slice A 3 3], .int .i64 1] w fun e w' => e = .returned (.int .i64 1) ∧ Below w.heap.size w w' :=
  placeOf_any A rowL 3 1 w (by decide) rowL_wf (by decide) h
theorem read1 (A : Option Addr) (w : World) (h : PostsAt w (Old w.heap.size) A rowL) : Calls Try.prog 36 #[.agg #[.slice A 3 3], .int .i64 1] w fun e w' => RowR 3 w w' e 2 [1, 2] :=
  readable_any A rowL 3 1 w (by decide) rowL_wf (by decide) h
theorem write3 (A : Option Addr) (w : World) (h : PostsAt w (Old w.heap.size) A rowL) : Calls Try.prog 37 #[.agg #[.slice A 3 3], .int .i64 3] w fun e w' => RowR 3 w w' e 2 [1, 3] :=
  writable_any A rowL 3 3 w (by decide) rowL_wf (by decide) h
theorem join1 (C A D : Option Addr) (w : World) (h : HistsAt w (Old w.heap.size) C [rowL]) (hA : IntsAt w (Old w.heap.size) A [3]) (hD : IntsAt w (Old w.heap.size) D [2]) :
    Calls Try.prog 30 #[.slice C 1 1, .slice A 1 1, .slice D 1 1] w fun e w' => RowR 3 w w' e 1 [2] :=
  viewJoin_yes C [rowL] 1 1 A [3] 1 D [2] 1 w rfl (by omega) rfl rfl (fun k hk => by match k, hk with | 0, _ => decide) (fun k hk => by match k, hk with | 0, _ => exact rowL_wf) (one_wf 3 (by decide)) (one_wf 2 (by decide)) h hA hD

set_option maxRecDepth 100000 in
set_option maxHeartbeats 6400000 in
theorem views_any (w : World) : Calls Try.prog 33 #[] w fun e w' => e = .returned (.bool true) ∧ Below w.heap.size w w' := by
  have HB := hide (Below.refl w.heap.size w)
  go_enter Try.func33, Try.ntmps33
  go_wp2_with fail
  refine (row_any _).mono ?_
  rintro e w1 ⟨AP1, rfl, hr, hb⟩
  have hzw1 := hb.size
  have hBz := HB.out.size
  replace HB := hide (below_next HB.out hb hBz)
  clear hBz
  clear hb
  have P1 := hide hr
  clear hr
  go_wp2_with fail
  refine (place1 _ _ P1.out.src).mono ?_
  rintro e w2 ⟨rfl, hb⟩
  have hzw2 := hb.size
  have hBz := HB.out.size
  replace P1 := hide (P1.out.next hb)
  replace HB := hide (below_next HB.out hb hBz)
  clear hBz
  clear hb
  clear P1
  go_wp2_with fail
  refine (row_any _).mono ?_
  rintro e w3 ⟨AP2, rfl, hr, hb⟩
  have hzw3 := hb.size
  have hBz := HB.out.size
  replace HB := hide (below_next HB.out hb hBz)
  clear hBz
  clear hb
  have P2 := hide hr
  clear hr
  go_wp2_with fail
  refine (read1 _ _ P2.out.src).mono ?_
  rintro e w4 ⟨AR1, cR1, rfl, hr, hb⟩
  have hzw4 := hb.size
  have hBz := HB.out.size
  replace P2 := hide (P2.out.next hb)
  replace HB := hide (below_next HB.out hb hBz)
  clear hBz
  clear hb
  clear P2
  have R1 := hide (RvI.of hr)
  clear hr
  go_wp2_with fail
  obtain ⟨w5, hw5⟩ : ∃ wx, wx = w4.alloc (Obj.cells #[Value.int .i64 1, Value.int .i64 2] 3) := ⟨_, rfl⟩
  have hb : Below w4.heap.size w4 w5 := by rw [hw5]; exact below1 _ _
  have hszw5 : w5.heap.size = w4.heap.size + 1 := by rw [hw5, World.size_alloc]
  have NL1 := hide (show RvI 3 w5 (w4.heap.size) (w4.heap.size + 1) (.slice (some ⟨w4.heap.size, 0, none⟩) 2 2) 2 [1, 2] from by rw [hw5]; exact lit_row _ _ _)
  have hBz := HB.out.size
  replace R1 := hide (R1.out.next hb)
  replace HB := hide (below_next HB.out hb hBz)
  clear hBz
  have L1 := hide NL1.out
  clear NL1
  clear hb
  rw [← hw5]
  clear hw5
  have hzw5 := Nat.le_of_eq hszw5.symm
  clear hszw5
  refine (sameIntsI (by rfl) (by omega) R1.out L1.out).mono ?_
  rintro e w6 ⟨rfl, hb⟩
  have hzw6 := hb.size
  have hBz := HB.out.size
  replace R1 := hide (R1.out.next hb)
  replace L1 := hide (L1.out.next hb)
  replace HB := hide (below_next HB.out hb hBz)
  clear hBz
  clear hb
  clear L1
  clear R1
  go_wp2_with fail
  refine (row_any _).mono ?_
  rintro e w7 ⟨AP3, rfl, hr, hb⟩
  have hzw7 := hb.size
  have hBz := HB.out.size
  replace HB := hide (below_next HB.out hb hBz)
  clear hBz
  clear hb
  have P3 := hide hr
  clear hr
  go_wp2_with fail
  refine (write3 _ _ P3.out.src).mono ?_
  rintro e w8 ⟨AR2, cR2, rfl, hr, hb⟩
  have hzw8 := hb.size
  have hBz := HB.out.size
  replace P3 := hide (P3.out.next hb)
  replace HB := hide (below_next HB.out hb hBz)
  clear hBz
  clear hb
  clear P3
  have R2 := hide (RvI.of hr)
  clear hr
  go_wp2_with fail
  obtain ⟨w9, hw9⟩ : ∃ wx, wx = w8.alloc (Obj.cells #[Value.int .i64 1, Value.int .i64 3] 3) := ⟨_, rfl⟩
  have hb : Below w8.heap.size w8 w9 := by rw [hw9]; exact below1 _ _
  have hszw9 : w9.heap.size = w8.heap.size + 1 := by rw [hw9, World.size_alloc]
  have NL2 := hide (show RvI 3 w9 (w8.heap.size) (w8.heap.size + 1) (.slice (some ⟨w8.heap.size, 0, none⟩) 2 2) 2 [1, 3] from by rw [hw9]; exact lit_row _ _ _)
  have hBz := HB.out.size
  replace R2 := hide (R2.out.next hb)
  replace HB := hide (below_next HB.out hb hBz)
  clear hBz
  have L2 := hide NL2.out
  clear NL2
  clear hb
  rw [← hw9]
  clear hw9
  have hzw9 := Nat.le_of_eq hszw9.symm
  clear hszw9
  refine (sameIntsI (by rfl) (by omega) R2.out L2.out).mono ?_
  rintro e w10 ⟨rfl, hb⟩
  have hzw10 := hb.size
  have hBz := HB.out.size
  replace R2 := hide (R2.out.next hb)
  replace L2 := hide (L2.out.next hb)
  replace HB := hide (below_next HB.out hb hBz)
  clear hBz
  clear hb
  clear L2
  clear R2
  go_wp2_with fail
  refine (row_any _).mono ?_
  rintro e w11 ⟨AP4, rfl, hr, hb⟩
  have hzw11 := hb.size
  have hBz := HB.out.size
  replace HB := hide (below_next HB.out hb hBz)
  clear hBz
  clear hb
  have P4 := hide hr
  clear hr
  go_wp2_with fail
  obtain ⟨w12, hw12⟩ : ∃ wx, wx = w11.alloc (Obj.cells #[Value.slice AP4 3 3] 45) := ⟨_, rfl⟩
  have hb : Below w11.heap.size w11 w12 := by rw [hw12]; exact below1 _ _
  have hszw12 : w12.heap.size = w11.heap.size + 1 := by rw [hw12, World.size_alloc]
  have NX4 := hide (show Blk w12 (w11.heap.size) 45 #[Value.slice AP4 3 3] from by rw [hw12]; exact Blk.new _ _ _)
  have hBz := HB.out.size
  replace P4 := hide (P4.out.next hb)
  replace HB := hide (below_next HB.out hb hBz)
  clear hBz
  have X4 := hide NX4.out
  clear NX4
  clear hb
  obtain ⟨w13, hw13⟩ : ∃ wx, wx = w12.alloc (Obj.cells #[Value.int .i64 3] 3) := ⟨_, rfl⟩
  have hb : Below w12.heap.size w12 w13 := by rw [hw13]; exact below1 _ _
  have hszw13 : w13.heap.size = w11.heap.size + 1 + 1 := by rw [hw13, World.size_alloc]; omega
  have NL3 := hide (show RvI 3 w13 (w11.heap.size + 1) (w11.heap.size + 1 + 1) (.slice (some ⟨w11.heap.size + 1, 0, none⟩) 1 1) 1 [3] from by rw [hw13]; rw [← hszw12]; exact lit_row1 _ _)
  have hBz := HB.out.size
  replace X4 := hide (X4.out.below hb X4.out.lt)
  replace P4 := hide (P4.out.next hb)
  replace HB := hide (below_next HB.out hb hBz)
  clear hBz
  have L3 := hide NL3.out
  clear NL3
  clear hb
  obtain ⟨w14, hw14⟩ : ∃ wx, wx = w13.alloc (Obj.cells #[Value.int .i64 2] 3) := ⟨_, rfl⟩
  have hb : Below w13.heap.size w13 w14 := by rw [hw14]; exact below1 _ _
  have hszw14 : w14.heap.size = w11.heap.size + 1 + 1 + 1 := by rw [hw14, World.size_alloc]; omega
  have NL4 := hide (show RvI 3 w14 (w11.heap.size + 1 + 1) (w11.heap.size + 1 + 1 + 1) (.slice (some ⟨w11.heap.size + 1 + 1, 0, none⟩) 1 1) 1 [2] from by rw [hw14]; rw [← hszw13]; exact lit_row1 _ _)
  have hBz := HB.out.size
  replace X4 := hide (X4.out.below hb X4.out.lt)
  replace P4 := hide (P4.out.next hb)
  replace L3 := hide (L3.out.next hb)
  replace HB := hide (below_next HB.out hb hBz)
  clear hBz
  have L4 := hide NL4.out
  clear NL4
  clear hb
  rw [← hw12]
  rw [← hw13]
  rw [← hw14]
  clear hw12
  clear hw13
  clear hw14
  have hzw12 := Nat.le_of_eq hszw12.symm
  clear hszw12
  have hzw13 := Nat.le_of_eq hszw13.symm
  clear hszw13
  have hzw14 := Nat.le_of_eq hszw14.symm
  clear hszw14
  obtain ⟨⟨cX4, -⟩, lX4⟩ := box1 X4.out
  refine (join1 _ _ _ _ (hist1 X4.out (by decide) P4.out.src) (L3.out.src (by simp) rfl) (L4.out.src (by simp) rfl)).mono ?_
  rintro e w15 ⟨AR3, cR3, rfl, hr, hb⟩
  clear cX4 lX4
  have hzw15 := hb.size
  have hBz := HB.out.size
  replace X4 := hide (X4.out.below hb X4.out.lt)
  replace P4 := hide (P4.out.next hb)
  replace L3 := hide (L3.out.next hb)
  replace L4 := hide (L4.out.next hb)
  replace HB := hide (below_next HB.out hb hBz)
  clear hBz
  clear hb
  clear P4
  clear X4
  clear L3
  clear L4
  have R3 := hide (RvI.of hr)
  clear hr
  go_wp2_with fail
  obtain ⟨w16, hw16⟩ : ∃ wx, wx = w15.alloc (Obj.cells #[Value.int .i64 2] 3) := ⟨_, rfl⟩
  have hb : Below w15.heap.size w15 w16 := by rw [hw16]; exact below1 _ _
  have hszw16 : w16.heap.size = w15.heap.size + 1 := by rw [hw16, World.size_alloc]
  have NL5 := hide (show RvI 3 w16 (w15.heap.size) (w15.heap.size + 1) (.slice (some ⟨w15.heap.size, 0, none⟩) 1 1) 1 [2] from by rw [hw16]; exact lit_row1 _ _)
  have hBz := HB.out.size
  replace R3 := hide (R3.out.next hb)
  replace HB := hide (below_next HB.out hb hBz)
  clear hBz
  have L5 := hide NL5.out
  clear NL5
  clear hb
  rw [← hw16]
  clear hw16
  have hzw16 := Nat.le_of_eq hszw16.symm
  clear hszw16
  refine (sameIntsI (by rfl) (by omega) R3.out L5.out).mono ?_
  rintro e w17 ⟨rfl, hb⟩
  have hzw17 := hb.size
  have hBz := HB.out.size
  replace R3 := hide (R3.out.next hb)
  replace L5 := hide (L5.out.next hb)
  replace HB := hide (below_next HB.out hb hBz)
  clear hBz
  clear hb
  go_wp2_with fail
  go_ret
  exact ⟨rfl, HB.out⟩
end Go.Proofs.Ytbhfkfapdpedpaa
