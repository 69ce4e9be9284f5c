/- BufPut, of the program and of the model. -/
import Derived.Test.YtmfjdmhcpgljbaaClone
namespace Go.Proofs.Ytmfjdmhcpgljbaa
open Go.RowKit

/-- What BufPut hands back. -/
def PutR (w w' : World) (e : Ending) (n : Nat) (zs : List Int) (ok : Bool) : Prop := ∃ A c, e = .returned (.tuple #[.agg #[.slice A n c], .bool ok]) ∧ n ≤ c ∧ RvT 62 w' w.heap.size (.slice A n c) n zs ∧ Below w.heap.size w w'

set_option maxHeartbeats 1600000 in
theorem bufPut_no (A : Option Addr) (n c : Nat) (x v : Int) (w : World) (h4 : 4 ≤ n) :
    Calls Try.prog 31 #[.agg #[.slice A n c], .int .i64 x, .int .i64 v] w fun e w' => PutR w w' e 0 [] false := by
  have h4' : (4 : Int) ≤ n := by omega
  have hb0 := (below2 w (Obj.cells #[Value.slice A n c] 54) (Obj.cells #[Value.slice none 0 0] 54))
  go_enter Try.func31, Try.ntmps31
  go_wp2_with fail
  refine bodyPost_ret (v := .tuple #[.agg #[.slice none 0 0], .bool false]) (by simp [results, Try.results31, go_sem]; done) rfl ⟨none, 0, rfl, Nat.le_refl _, .inl ⟨rfl, rfl, rfl⟩, ?_⟩
  exact hb0

set_option maxHeartbeats 1600000 in
theorem bufPut_yes (A : Option Addr) (zs : List Int) (n c : Nat) (x v : Int) (w : World) (hn : zs.length = n * 2) (h4 : n < 4) (hS : IntsAt w (Old w.heap.size) A zs) :
    Calls Try.prog 31 #[.agg #[.slice A n c], .int .i64 x, .int .i64 v] w fun e w' => PutR w w' e (n + 1) (zs ++ [x, v]) true := by
  have h4' : ¬ (4 : Int) ≤ n := by omega
  have hb0 := (below2 w (Obj.cells #[Value.slice A n c] 54) (Obj.cells #[Value.slice none 0 0] 54))
  obtain ⟨i1, hi1, hy0, hy1, hy2⟩ := info_parts Try.infoWait
  have hR := hide (Blk.new (w.alloc (Obj.cells #[Value.slice A n c] 54)) 54 #[Value.slice none 0 0])
  replace hn := hide hn
  replace hS := hide hS
  go_enter Try.func31, Try.ntmps31
  go_wp2_with fail
  refine (cloneWaits_any A zs n c _ hn.out (by omega) ((hS.out.below hb0 (fun _ h => h)).more (fun b h => Nat.lt_of_lt_of_le h hb0.size))).mono ?_
  rintro e w1 ⟨A1, c1, rfl, hown, hb1⟩
  have hz1 := hb1.size
  simp only [World.size_alloc] at hz1
  have hB1 := hide (hb0.trans (hb1.mono (by simp; omega)))
  have hR1 := hR.out.below hb1 (by simp)
  simp only [World.size_alloc] at hR1
  have r0 := hR1.cell 0
  have z0 := hR1.frozen 0
  simp only [List.getElem?_toArray, List.getElem?_cons_zero] at r0
  replace hR1 := hide hR1
  have hb2 := below1 w1 (Obj.cells #[Value.int .i64 x, Value.int .i64 v] 62)
  have hsrc := hide (show IntsAt (w1.alloc (Obj.cells #[Value.int .i64 x, Value.int .i64 v] 62)) (Old (w1.heap.size + 1)) (some ⟨w1.heap.size, 0, none⟩) [x, v] from ⟨by simp, fun _ => ⟨_, 0, rfl, by simp [Old], fun k hk => by
    rw [(Blk.new w1 62 #[Value.int .i64 x, Value.int .i64 v]).cell]
    match k, hk with
    | 0, _ => rfl
    | 1, _ => rfl⟩⟩)
  have hown2 := hide (kept hown (fun k hk _ => hb2.block k hk))
  have hA1 := hide (fun k (h : (Value.slice A1 n c1).ownBlock = some k) => own_at hown h)
  clear hb1 hown hS hR hb0
  go_wp2_with (at_builtin; refine wpList_append_src _ rfl _ _ _ rfl _ 62 i1 _ 2 16 Try.underlying52 hi1 hy0 hy1 hy2 rfl (by omega) (.slice A1 n c1) n (zs.map (Value.int .i64)) rfl hown2.out (Old (w1.heap.size + 1)) (some ⟨w1.heap.size, 0, none⟩) 1 1 [x, v] rfl rfl hsrc.out (by have : maxLen = 9223372036854775807 := rfl; omega) (by omega) (by simp; omega) ?_)
  intro A2 c2 w2 hown3 hgr _
  have hlow : Below (w.heap.size + 1 + 1) (w1.alloc (Obj.cells #[Value.int .i64 x, Value.int .i64 v] 62)) w2 := below_own hgr (fun k hk e => by
    have h1 := (hA1.out k e.symm).1
    simp only [World.size_alloc] at h1
    omega) (by simp; omega)
  have hR2 := (hR1.out.alloc (Obj.cells #[Value.int .i64 x, Value.int .i64 v] 62)).below hlow (by omega)
  have s0 := hR2.cell 0
  have y0 := hR2.frozen 0
  simp only [List.getElem?_toArray, List.getElem?_cons_zero] at s0
  have hB2 := hide (show Below w.heap.size w w2 from (hB1.out.alloc hB1.out.size (Obj.cells #[Value.int .i64 x, Value.int .i64 v] 62)).trans (hlow.mono (by omega)))
  have hcap := hide (own_cap hown3)
  have hQ := hide (RvT.of_own (zs := zs ++ [x, v]) (by simpa using hown3))
  clear hown3 hgr hlow hR2 r0 z0
  go_wp2_with fail
  refine bodyPost_ret (v := .tuple #[.agg #[.slice A2 (n + 1) c2], .bool true]) (by simp [results, Try.results31, go_sem, s0]; done) rfl ⟨A2, c2, rfl, hcap.out, ?_, ?_⟩
  · exact (hQ.out.setCell (p := ⟨w.heap.size + 1, 0, none⟩) (by simp) _).base (by omega)
  · exact hB2.out.setCell (p := ⟨w.heap.size + 1, 0, none⟩) (by simp) _

set_option maxHeartbeats 1600000 in
theorem sbufPut_no (A : Option Addr) (n c : Nat) (x v : Int) (w : World) (h4 : 4 ≤ n) :
    Calls Try.prog 32 #[.agg #[.slice A n c], .int .i64 x, .int .i64 v] w fun e w' => PutR w w' e 0 [] false := by
  have h4' : (4 : Int) ≤ n := by omega
  have hb0 := (below2 w (Obj.cells #[Value.slice A n c] 54) (Obj.cells #[Value.slice none 0 0] 54))
  go_enter Try.func32, Try.ntmps32
  go_wp2_with fail
  refine bodyPost_ret (v := .tuple #[.agg #[.slice none 0 0], .bool false]) (by simp [results, Try.results32, go_sem]; done) rfl ⟨none, 0, rfl, Nat.le_refl _, .inl ⟨rfl, rfl, rfl⟩, ?_⟩
  exact hb0

set_option maxHeartbeats 1600000 in
theorem sbufPut_yes (A : Option Addr) (zs : List Int) (n c : Nat) (x v : Int) (w : World) (hn : zs.length = n * 2) (h4 : n < 4) (hS : IntsAt w (Old w.heap.size) A zs) :
    Calls Try.prog 32 #[.agg #[.slice A n c], .int .i64 x, .int .i64 v] w fun e w' => PutR w w' e (n + 1) (zs ++ [x, v]) true := by
  have h4' : ¬ (4 : Int) ≤ n := by omega
  have hb0 := ((below2 w (Obj.cells #[Value.slice A n c] 54) (Obj.cells #[Value.slice none 0 0] 54))).alloc (by simp; omega) (Obj.cells #[] 62)
  obtain ⟨i1, hi1, hy0, hy1, hy2⟩ := info_parts Try.infoWait
  have hR := hide ((Blk.new (w.alloc (Obj.cells #[Value.slice A n c] 54)) 54 #[Value.slice none 0 0]).alloc (Obj.cells #[] 62))
  have hown0 := own_row (w := (w.alloc (Obj.cells #[Value.slice A n c] 54)).alloc (Obj.cells #[Value.slice none 0 0] 54)) (B := w.heap.size + 1 + 1) (e := 62) (size := 2) (n := 0) (cs := #[]) (by simp) (by omega) rfl
  simp only [World.size_alloc] at hown0
  replace hown0 := hide hown0
  have hsrc := hide (hS.below hb0 (fun _ h => h))
  replace hn := hide hn
  clear hS
  go_enter Try.func32, Try.ntmps32
  go_wp2_with (at_builtin; refine wpList_append_src _ rfl _ _ _ rfl (w.heap.size + 1 + 1) 62 i1 _ 2 16 Try.underlying52 hi1 hy0 hy1 hy2 rfl (by omega) (.slice (some ⟨w.heap.size + 1 + 1, 0, none⟩) 0 0) 0 [] rfl hown0.out (Old w.heap.size) A n c zs rfl hn.out hsrc.out (by have : maxLen = 9223372036854775807 := rfl; omega) (by omega) (by simp) ?_)
  intro A2 c2 w2 hown2 hgr2 _
  have hlow2 := below_own (B := w.heap.size + 1 + 1) hgr2 (fun k hk e => by
    have e2 : w.heap.size + 1 + 1 = k := by simpa [Value.ownBlock] using e.symm
    omega) (by simp)
  have hz2 := hgr2.size
  simp only [World.size_alloc] at hz2
  have hR2 := hR.out.below hlow2 (by simp)
  simp only [World.size_alloc] at hR2
  have hB2 := hide (hb0.trans (hlow2.mono (by omega)))
  have hb3 := below2 w2 (Obj.cells #[Value.slice A2 n c2] 54) (Obj.cells #[Value.int .i64 x, Value.int .i64 v] 62)
  have hX := (Blk.new (w2.alloc (Obj.cells #[Value.slice A2 n c2] 54)) 62 #[Value.int .i64 x, Value.int .i64 v])
  simp only [World.size_alloc] at hX
  have hsrc3 := hide (show IntsAt ((w2.alloc (Obj.cells #[Value.slice A2 n c2] 54)).alloc (Obj.cells #[Value.int .i64 x, Value.int .i64 v] 62)) (Old (w2.heap.size + 1 + 1)) (some ⟨w2.heap.size + 1, 0, none⟩) [x, v] from ⟨by simp, fun _ => ⟨_, 0, rfl, by simp [Old], fun k hk => by
    rw [hX.cell]
    match k, hk with
    | 0, _ => rfl
    | 1, _ => rfl⟩⟩)
  have hown3 := hide (kept hown2 (fun k hk _ => hb3.block k hk))
  have hA2 := hide (fun k (h : (Value.slice A2 n c2).ownBlock = some k) => own_at hown2 h)
  have hR3 := hR2.below hb3 (by omega)
  have hY := hide ((Blk.new w2 54 #[Value.slice A2 n c2]).alloc (Obj.cells #[Value.int .i64 x, Value.int .i64 v] 62))
  have r3 := hR3.cell 0
  have z3 := hR3.frozen 0
  simp only [List.getElem?_toArray, List.getElem?_cons_zero] at r3
  replace hR3 := hide hR3
  clear hown2 hX hlow2 hgr2 hb0 hb3 hsrc hown0 hR hR2
  go_wp2_with (at_builtin; refine wpList_append_src _ rfl _ _ _ rfl (w.heap.size + 1 + 1) 62 i1 _ 2 16 Try.underlying52 hi1 hy0 hy1 hy2 rfl (by omega) (.slice A2 n c2) n (zs.map (Value.int .i64)) rfl hown3.out (Old (w2.heap.size + 1 + 1)) (some ⟨w2.heap.size + 1, 0, none⟩) 1 1 [x, v] rfl rfl hsrc3.out (by have : maxLen = 9223372036854775807 := rfl; omega) (by omega) (by simp; omega) ?_)
  intro A4 c4 w4 hown4 hgr4 hat4
  have hlow4 : Below (w.heap.size + 1 + 1) ((w2.alloc (Obj.cells #[Value.slice A2 n c2] 54)).alloc (Obj.cells #[Value.int .i64 x, Value.int .i64 v] 62)) w4 := below_own hgr4 (fun k hk e => by
    have h1 := (hA2.out k e.symm).1
    omega) (by simp; omega)
  have hY4 := (hgr4.block w2.heap.size (by simp; omega) (fun e => by have h1 := (hA2.out _ e.symm).2; omega)).trans hY.out
  have hY4 : Blk w4 w2.heap.size 54 #[Value.slice A2 n c2] := hY4
  have hR4 := hR3.out.below hlow4 (by omega)
  have t0 := hR4.cell 0
  have t1 := hR4.frozen 0
  have t2 := hY4.cell 0
  have t3 := hY4.frozen 0
  simp only [List.getElem?_toArray, List.getElem?_cons_zero] at t0 t2
  have hB4 := hide (show Below w.heap.size w w4 from (hB2.out.trans ((below2 w2 (Obj.cells #[Value.slice A2 n c2] 54) (Obj.cells #[Value.int .i64 x, Value.int .i64 v] 62)).mono hB2.out.size)).trans (hlow4.mono (by omega)))
  have hq4 := hide (fun k (h : (Value.slice A4 (n + 1) c4).ownBlock = some k) => (show w.heap.size + 1 + 1 ≤ k ∧ k ≠ w2.heap.size from ⟨(own_at hown4 h).1, by
    rcases hat4 with e | e
    · rw [h] at e
      have h1 := (hA2.out k e.symm).2
      omega
    · rw [h] at e
      have e2 : k = w2.heap.size + 1 + 1 := by simpa using e
      omega⟩))
  have hcap := hide (own_cap hown4)
  have hQ := hide (RvT.of_own (zs := zs ++ [x, v]) (by simpa using hown4))
  clear hown4 hgr4 hlow4 hR4 hY4 r3 z3 hat4
  go_wp2_with fail
  refine bodyPost_ret (v := .tuple #[.agg #[.slice A4 (n + 1) c4], .bool true]) (by simp [results, Try.results32, go_sem, t0]; done) rfl ⟨A4, c4, rfl, hcap.out, ?_, ?_⟩
  · exact ((hQ.out.keep (fun k _ hk => Below.heap_setCell w4 ⟨w2.heap.size, 0, none⟩ _ k (hq4.out k hk).2)).setCell (p := ⟨w.heap.size + 1, 0, none⟩) (by simp) _).base (by omega)
  · exact (hB4.out.setCell (p := ⟨w2.heap.size, 0, none⟩) (by show w.heap.size ≤ w2.heap.size; omega) _).setCell (p := ⟨w.heap.size + 1, 0, none⟩) (by simp) _
end Go.Proofs.Ytmfjdmhcpgljbaa
