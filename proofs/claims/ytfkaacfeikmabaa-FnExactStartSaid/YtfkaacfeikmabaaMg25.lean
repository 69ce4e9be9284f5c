/- spec.l4ok of any state. -/
import Derived.Test.YtfkaacfeikmabaaMg23
import Derived.Test.YtfkaacfeikmabaaMg24
namespace Go.Proofs.Ytfkaacfeikmabaa
open Go.RowKit

/-- The table of what has been seen, as it lies. -/
def SnAt (w : World) (q m : Nat) (os : List Int) : Prop := ∃ cs, Blk w q 4 cs ∧ cs.size = m ∧ os.length = m ∧ ∀ i, i < m → cs[i]? = some (.bool (decide (geti os i ≠ -1)))
theorem SnAt.alloc {w : World} {q m : Nat} {os : List Int} (h : SnAt w q m os) (o : Obj) : SnAt (w.alloc o) q m os := by
  obtain ⟨cs, h1, h2⟩ := h; exact ⟨cs, h1.alloc o, h2⟩
theorem SnAt.next {w w' : World} {q m : Nat} {os : List Int} (h : SnAt w q m os) (hb : Below w.heap.size w w') : SnAt w' q m os := by
  obtain ⟨cs, h1, h2⟩ := h; exact ⟨cs, h1.below hb h1.lt, h2⟩
theorem SnAt.set {w : World} {q m : Nat} {os : List Int} (h : SnAt w q m os) {k x : Nat} (hk : k < m) : SnAt (w.setCell ⟨q, k, none⟩ (.bool true)) q m (os.set k x) := by
  obtain ⟨cs, h1, h2, h3, h4⟩ := h
  refine ⟨cs.setIfInBounds k (.bool true), h1.set_ _ _, by simpa using h2, by simpa using h3, fun i hi => ?_⟩
  rw [geti_set' (by omega), Array.getElem?_setIfInBounds]
  by_cases e : i = k
  · subst e; rw [if_pos rfl, if_pos rfl, if_pos (by omega)]; rfl
  · rw [if_neg (fun h => e h.symm), if_neg e]; exact h4 i hi
theorem SnAt.cell {w : World} {q m : Nat} {os : List Int} (h : SnAt w q m os) {k : Nat} (hk : k < m) : w.cell? ⟨q, k, none⟩ = some (.bool (decide (geti os k ≠ -1))) ∧ w.frozen? ⟨q, k, none⟩ = false ∧ q < w.heap.size := by
  obtain ⟨cs, h1, h2, h3, h4⟩ := h
  exact ⟨(h1.cell k).trans (h4 k hk), h1.frozen k, h1.lt⟩
theorem Try.infoBoolR : (Try.prog.info? 4).map (fun i => (i.zero, i.size, i.bytes)) = some (some (.bool false), 1, 1) := by kernel_rfl
theorem make_bools (n : Nat) (hn : n ≤ 1048576) (W : World) : (Instr.makeSlice 195 (.int .i64 (n : Int)) (.int .i64 (n : Int))).run Try.prog W = .ok (.slice (some ⟨W.heap.size, 0, none⟩) n n) (W.alloc (.cells (zrow #[.bool false] n) 4)) :=
  run_make_row' (P := Try.prog) 195 4 (.bool false) 1 Try.underlying195 Try.infoBoolR rfl .i64 .i64 n (by omega) (by omega) W
theorem SnAt.new (w : World) (m : Nat) : SnAt (w.alloc (.cells (zrow #[.bool false] m) 4)) w.heap.size m (List.replicate m (-1)) := by
  refine ⟨_, Blk.new _ _ _, zrow_size _ _, by simp, fun i hi => ?_⟩
  have e : geti (List.replicate m (-1)) i = -1 := by unfold geti; rw [List.getD_eq_getElem?_getD, List.getElem?_replicate, if_pos hi]; rfl
  rw [e]
  unfold zrow madeCells
  simp [hi, Nat.mod_one]

/-- What the checks of a post read. -/
structure LkR (g U q n id m : Nat) (V : Option Addr) (vs : List Int) (cv : Nat) (cs ps : Array Value) (s : StD) (w : World) : Prop where
  box : Blk w g 48 cs
  post : Blk w U 86 ps
  sn : w.cell? ⟨q, id, none⟩ = some (.bool false) ∧ q < w.heap.size
  st : StAt w n s
  vi : IntsAt w (Old n) V vs
theorem LkR.next {g U q n id m : Nat} {V : Option Addr} {vs : List Int} {cv : Nat} {cs ps : Array Value} {s : StD} {w w' : World} (h : LkR g U q n id m V vs cv cs ps s w) (hb : Below w.heap.size w w') : LkR g U q n id m V vs cv cs ps s w' :=
  ⟨h.box.below hb h.box.lt, h.post.below hb h.post.lt, ⟨(hb.cell (p := ⟨q, id, none⟩) h.sn.2).trans h.sn.1, Nat.lt_of_lt_of_le h.sn.2 hb.size⟩, h.st.next hb, h.vi.below hb h.st.lts⟩
theorem LkR.cells {g U q n id m : Nat} {V : Option Addr} {vs : List Int} {cv : Nat} {val : Int} {gl : Bool} {s : StD} {w : World} (h : LkR g U q n id m V vs cv #[.int .i64 s.kind, .slice s.pc.A s.pc.n s.pc.c, .slice s.F.A s.F.n s.F.c, .slice s.mem.A s.mem.n s.mem.c, .slice s.bufs.A s.bufs.n s.bufs.c, .slice s.H.A s.H.n s.H.c, .slice s.view.A s.view.n s.view.c, .slice s.sc.A s.sc.n s.sc.c, .int .i64 (m : Int)] #[.int .i64 (id : Int), .int .i64 val, .bool gl, .slice V vs.length cv] s w) :
    (w.cell? ⟨g, 5, none⟩ = some (.slice s.H.A s.H.n s.H.c) ∧ w.cell? ⟨g, 8, none⟩ = some (.int .i64 (m : Int))) ∧ (w.cell? ⟨U, 0, none⟩ = some (.int .i64 (id : Int)) ∧ w.cell? ⟨U, 3, none⟩ = some (.slice V vs.length cv)) ∧ w.cell? ⟨q, id, none⟩ = some (.bool false) :=
  ⟨⟨h.box.cell 5, h.box.cell 8⟩, ⟨h.post.cell 0, h.post.cell 3⟩, h.sn.1⟩

set_option maxRecDepth 100000 in
set_option maxHeartbeats 25600000 in
theorem sl4ok_any (s : StD) (A1 A2 : Option Addr) (n1 n2 c1 c2 n : Nat) (w : World) (hs : StAt w n s) (hl : StLen s) :
    Calls Try.prog 96 #[.agg #[.slice A1 n1 c1, .slice A2 n2 c2], .agg s.cells] w fun e w' => e = .returned (.bool (viewsB n1 n2 s.next s.H.hs s.view.rs s.sc.zs)) ∧ Below w.heap.size w w' := by
  have hn : n ≤ w.heap.size := hs.sz
  have hS : ∀ b, Old n b → b < w.heap.size := hs.lts
  have hb0 := hide (below2 w (Obj.cells #[.slice A1 n1 c1, .slice A2 n2 c2] 31) (Obj.cells s.cells 48))
  have K0 := Blk.new (w.alloc (Obj.cells #[.slice A1 n1 c1, .slice A2 n2 c2] 31)) 48 s.cells
  simp only [World.size_alloc] at K0
  replace K0 := hide K0
  obtain ⟨res, hres⟩ : ∃ res, res = viewsB n1 n2 s.next s.H.hs s.view.rs s.sc.zs := ⟨_, rfl⟩
  rw [← hres]
  replace hres := hide hres
  have hlH := hl.H
  have hlV := hl.view
  have hlS := hl.sc
  have hHn := hs.H.1
  have hVn := hs.view.1
  replace hl := hide hl
  have hs0 := hide (hs.next hb0.out)
  unfold StD.cells at hb0 K0 hs0 ⊢
  obtain ⟨w0, hw0⟩ : ∃ wq, wq = (w.alloc (Obj.cells #[.slice A1 n1 c1, .slice A2 n2 c2] 31)).alloc (Obj.cells #[.int .i64 s.kind, .slice s.pc.A s.pc.n s.pc.c, .slice s.F.A s.F.n s.F.c, .slice s.mem.A s.mem.n s.mem.c, .slice s.bufs.A s.bufs.n s.bufs.c, .slice s.H.A s.H.n s.H.c, .slice s.view.A s.view.n s.view.c, .slice s.sc.A s.sc.n s.sc.c, .int .i64 s.next] 48) := ⟨_, rfl⟩
  have hsz0 : w0.heap.size = w.heap.size + 1 + 1 := by rw [hw0]; simp
  go_enter Try.func96, Try.ntmps96
  by_cases x1 : s.H.n = n1
  · have x1' : ((s.H.n : Int) != (n1 : Int)) = false := by simp [x1]
    by_cases x2 : s.view.n = n2
    · have x2' : ((s.view.n : Int) != (n2 : Int)) = false := by simp [x2]
      by_cases x3 : s.next < 0
      · have hE := hide (show res = false from by rw [hres.out]; unfold viewsB foI; rw [if_pos (.inl x3)]; rfl)
        have x3' : decide (s.next < 0) = true := decide_eq_true x3
        clear x1 x2 x3 hw0
        go_wp2_with fail
        go_ret
        exact ⟨ret_bool hE.out.symm, hb0.out⟩
      · have x3' : decide (s.next < 0) = false := decide_eq_false x3
        by_cases x4 : 1000 < s.next
        · have hE := hide (show res = false from by rw [hres.out]; unfold viewsB foI; rw [if_pos (.inr (.inl x4))]; rfl)
          have x4' : decide (1000 < s.next) = true := decide_eq_true x4
          clear x1 x2 x3 x4 hw0
          go_wp2_with fail
          go_ret
          exact ⟨ret_bool hE.out.symm, hb0.out⟩
        · have x4' : decide (1000 < s.next) = false := decide_eq_false x4
          obtain ⟨m, hm⟩ : ∃ m : Nat, s.next = m := ⟨s.next.toNat, by omega⟩
          have hm2 : m ≤ 1000 := by omega
          rw [hm] at hw0 hs0 K0 hb0 x3' x4' ⊢
          have hfo := hide (show foI n1 s.next s.H.hs = ownAll m s.H.hs s.H.hs.length from (if_neg (by omega)).trans (by rw [hm, Int.toNat_natCast]))
          replace hm := hide hm
          replace x1 := hide x1
          replace x2 := hide x2
          clear x3 x4
          go_wp2_with fail
          try rw [← hw0]
          rw [← hw0] at hs0 K0 hb0
          have k4 := fun (wX : World) (V : Option Addr) (vs : List Int) (c : Nat) (h : StAt wX n s) (h5 : wX.cell? ⟨w.heap.size + 1, 5, none⟩ = some (.slice s.H.A s.H.n s.H.c)) (hlt : w.heap.size + 1 < wX.heap.size) (hV : IntsAt wX (Old n) V vs) => sl4view_any (w.heap.size + 1) n s.H.A s.H.hs s.H.c V vs c wX (by rw [hl.out.H]; exact h5) hlt h.H hV h.sz
          have k4s := k4 w0 s.sc.A s.sc.zs s.sc.c hs0.out (K0.out.cell 5) K0.out.lt hs0.out.sc
          rw [hl.out.sc] at k4s
          replace k4 := hide k4
          refine k4s.mono ?_
          clear k4s
          rintro e w1 ⟨rfl, hb1⟩
          have B1 := hide (below_then hb0.out hb1)
          have K1 := hide (K0.out.below hb1 K0.out.lt)
          have hs1 := hide (hs0.out.next hb1)
          have hz1 := hb1.size
          clear hw0 hb0 K0 hs0 hb1
          cases hv : viewB s.H.hs s.sc.zs
          · have hE := hide (show res = false from by rw [hres.out]; unfold viewsB; rw [hv]; simp)
            go_wp2_with fail
            go_ret
            exact ⟨ret_bool hE.out.symm, B1.out⟩
          · have kx5 : w1.cell? ⟨w.heap.size + 1, 5, none⟩ = some (.slice s.H.A s.H.n s.H.c) := K1.out.cell 5
            have kx8 : w1.cell? ⟨w.heap.size + 1, 8, none⟩ = some (.int .i64 (m : Int)) := K1.out.cell 8
            have hgl : w.heap.size + 1 < w1.heap.size := K1.out.lt
            have hmk := make_bools m (by omega)
            go_wp2_with fail
            clear hmk kx5 kx8
            have O2 := hide (SnAt.new w1 m)
            have K2 := hide (K1.out.alloc (.cells (zrow #[.bool false] m) 4))
            have B2 := hide (B1.out.alloc B1.out.size (.cells (zrow #[.bool false] m) 4))
            obtain ⟨w2, hw2⟩ : ∃ wq, wq = w1.alloc (.cells (zrow #[.bool false] m) 4) := ⟨_, rfl⟩
            rw [← hw2] at O2 K2 B2 ⊢
            obtain ⟨q, hq⟩ : ∃ q, q = w1.heap.size := ⟨_, rfl⟩
            rw [← hq] at O2 ⊢
            have hq2 : w.heap.size + 1 < q := by omega
            have hq3 : q < w2.heap.size := by obtain ⟨cs, h, -⟩ := O2.out; exact h.lt
            clear hw2 hq K1 B1 hz1 hgl hs1
            go_loopw [6] (fun i wr => ∃ (x : Nat) (os : List Int), x ≤ s.H.hs.length ∧ i = .int .i64 x ∧ Hid (ownAll m s.H.hs x = some os) ∧ Hid (∀ y, y < x → allB (fun k => postB s.H.hs y (getp (geth s.H.hs y) k)) (geth s.H.hs y).length = true) ∧ Hid (SnAt wr q m os) ∧ Hid (Only q w2 wr)) (fun i _ => s.H.hs.length - (intOf i).toNat)
            case atStart => exact ⟨0, _, Nat.zero_le _, rfl, hide rfl, hide (fun y hy => by omega), O2, hide (Only.refl _ _)⟩
            case round =>
              clear O2
              obtain ⟨x, os, hx, rfl, hos, hdn, hO, ho⟩ := hrel
              have hzr := ho.out.size
              have Br := hide (B2.out.trans (only_lo ho.out (by omega) B2.out.size))
              have Kr := hide (K2.out.only ho.out (by omega))
              have Sr := hide (hs.next Br.out)
              have lg := Kr.out.lt
              have kx5 : wr.cell? ⟨w.heap.size + 1, 5, none⟩ = some (.slice s.H.A s.H.n s.H.c) := Kr.out.cell 5
              by_cases hlt : x < s.H.hs.length
              · have hlt' : (x : Int) < (s.H.n : Int) := by omega
                have hx0 : (0 : Int) ≤ (x : Int) := by omega
                obtain ⟨b, off, eA, hSb, hc⟩ := Sr.out.H.2 (by omega)
                rw [eA] at kx5
                replace eA := hide eA
                obtain ⟨A', c', hcell, hcap, hp⟩ := hc x hlt
                have hbl := Nat.lt_of_lt_of_le (hS b hSb) Br.out.size
                obtain ⟨l, hl0⟩ : ∃ l, l = geth s.H.hs x := ⟨_, rfl⟩
                rw [← hl0] at hcell hcap hp
                have hln := hp.1
                replace hp := hide hp
                replace hl0 := hide hl0
                clear hc
                have hnone := hide (fun (h : ownAll m s.H.hs (x + 1) = none) => (show res = false from by
                  rw [hres.out]; unfold viewsB; rw [hfo.out, ownAll_none h hlt]; rfl))
                rcases Nat.eq_zero_or_pos l.length with hz | hz
                · have hE := hide (hnone.out (by rw [ownAll, hos.out, ← hl0.out]; simp [headB, hz]))
                  rw [hz] at hcell
                  go_wp2_with fail
                  go_ret
                  exact ⟨ret_bool hE.out.symm, Br.out⟩
                · obtain ⟨bp, op, rfl, hSp, hcp⟩ := hp.out.2 hz
                  obtain ⟨V0, cv0, ⟨-, -, g2, -⟩, -, -⟩ := hcp 0 hz
                  rw [Nat.zero_mul, Nat.add_zero] at g2
                  have hz' : ((l.length : Int) == 0) = false := by rw [beq_eq_false_iff_ne]; omega
                  have hz0 : (0 : Int) < (l.length : Int) := by omega
                  clear hcp
                  cases hg : (getp l 0).glue
                  · rw [hg] at g2
                    go_wp2_with fail
                    clear g2 hz' kx5 hcell
                    go_loopw [7] (fun i ws => ∃ (j : Nat) (ot : List Int), j ≤ l.length ∧ i = .int .i64 j ∧ Hid (ownTo x l os j = some ot) ∧ Hid (∀ k, k < j → postB s.H.hs x (getp l k) = true) ∧ Hid (SnAt ws q m ot) ∧ Hid (Only q w2 ws)) (fun i _ => l.length - (intOf i).toNat)
                    case atStart => exact ⟨0, _, Nat.zero_le _, rfl, hide rfl, hide (fun k hk => by omega), hO, ho⟩
                    case round =>
                      clear hO ho Br Kr Sr hp
                      obtain ⟨j, ot, hj, rfl, ht, hdj, hOt, hoj⟩ := hrel
                      have hzj := hoj.out.size
                      have Br := hide (B2.out.trans (only_lo hoj.out (by omega) B2.out.size))
                      have Kr := hide (K2.out.only hoj.out (by omega))
                      have Sr := hide (hs.next Br.out)
                      have lg := Kr.out.lt
                      have kx5 : wr.cell? ⟨w.heap.size + 1, 5, none⟩ = some (.slice s.H.A s.H.n s.H.c) := Kr.out.cell 5
                      have kx8 : wr.cell? ⟨w.heap.size + 1, 8, none⟩ = some (.int .i64 (m : Int)) := Kr.out.cell 8
                      obtain ⟨b1, off1, eA1, hSb1, hc1⟩ := Sr.out.H.2 (by omega)
                      obtain ⟨eb, eo⟩ : b1 = b ∧ off1 = off := by rw [eA.out] at eA1; cases eA1; exact ⟨rfl, rfl⟩
                      subst eb eo
                      clear eA1
                      rw [eA.out] at kx5
                      obtain ⟨A1', c1', hcell, -, hp⟩ := hc1 x hlt
                      rw [← hl0.out] at hcell hp
                      have hbl := Nat.lt_of_lt_of_le (hS b1 hSb1) Br.out.size
                      clear hc1
                      by_cases hjl : j < l.length
                      · obtain ⟨b2, o2, rfl, hSb2, hc2⟩ := hp.2 (by omega)
                        obtain ⟨V, cv, ⟨p0, p1, p2, p3⟩, hvc, hvi⟩ := hc2 j hjl
                        have hjl' : (j : Int) < (l.length : Int) := by omega
                        have hj0 : (0 : Int) ≤ (j : Int) := by omega
                        have hbl2 := Nat.lt_of_lt_of_le (hS b2 hSb2) Br.out.size
                        obtain ⟨d, hd⟩ : ∃ d, d = getp l j := ⟨_, rfl⟩
                        rw [← hd] at p0 p1 p2 p3 hvi
                        replace hd := hide hd
                        have hbadI := hide (fun (h : ownStep x ot d = none) => (show res = false from hnone.out (by
                          rw [ownAll, hos.out, ← hl0.out]
                          simp only [Option.bind_some, headB, hz, hg]
                          refine ownTo_none (k := j + 1) ?_ hjl
                          rw [ownTo, ht.out, Option.bind_some, ← hd.out]
                          exact h)))
                        have hbadP := hide (fun (h : postB s.H.hs x d = false) => (show res = false from by
                          rw [hres.out]; unfold viewsB
                          have e : postsB s.H.hs = false := allB_no hlt (by rw [← hl0.out]; exact allB_no hjl (by rw [← hd.out]; exact h))
                          rw [e]; simp))
                        have hvi0 := hide (show ∀ o : Obj, IntsAt (wr.alloc o) (Old n) V d.view from fun o => hvi.below (below1 wr o) (fun b h => Nat.lt_of_lt_of_le (hS b h) Br.out.size))
                        have hvil := hvi.1
                        clear hc2 hp hvi
                        obtain ⟨idI, hidI⟩ : ∃ i, i = d.id := ⟨_, rfl⟩
                        obtain ⟨val, hval⟩ : ∃ i, i = d.val := ⟨_, rfl⟩
                        obtain ⟨gl, hgl⟩ : ∃ i, i = d.glue := ⟨_, rfl⟩
                        obtain ⟨vs, hvs⟩ : ∃ i, i = d.view := ⟨_, rfl⟩
                        rw [← hidI] at p0
                        rw [← hval] at p1
                        rw [← hgl] at p2
                        rw [← hvs] at p3 hvil hvi0
                        have hst0 := hide (show ownStep x ot d = if idI < 0 ∨ (ot.length : Int) ≤ idI ∨ geti ot idI.toNat ≠ -1 then none else some (ot.set idI.toNat x) from by rw [hidI]; rfl)
                        have hpb := hide (show postB s.H.hs x d = (viewB s.H.hs vs && decide (geti vs x = idI)) from by rw [hidI, hvs]; rfl)
                        clear hidI hval hgl hvs
                        have hol : ot.length = m := hOt.out.choose_spec.2.2.1
                        by_cases i0 : idI < 0
                        · have hE := hide (hbadI.out (by rw [hst0.out, if_pos (.inl i0)]))
                          have i0' : decide (idI < 0) = true := decide_eq_true i0
                          go_wp2_with fail
                          go_quiet (fail)
                          go_wp2_with fail
                          go_ret
                          exact ⟨ret_bool hE.out.symm, below_drewN (Br.out.alloc Br.out.size _) _⟩
                        · have i0' : decide (idI < 0) = false := decide_eq_false i0
                          by_cases i1 : (m : Int) ≤ idI
                          · have hE := hide (hbadI.out (by rw [hst0.out, if_pos (.inr (.inl (by omega)))]))
                            have i1' : decide ((m : Int) ≤ idI) = true := decide_eq_true i1
                            go_wp2_with fail
                            go_quiet (fail)
                            go_wp2_with fail
                            go_ret
                            exact ⟨ret_bool hE.out.symm, below_drewN (Br.out.alloc Br.out.size _) _⟩
                          · obtain ⟨id, hid⟩ : ∃ id : Nat, idI = id := ⟨idI.toNat, by omega⟩
                            subst hid
                            have hidm : id < m := by omega
                            have i1' : decide ((m : Int) ≤ (id : Int)) = false := decide_eq_false i1
                            have i1n : decide (m ≤ id) = false := decide_eq_false (by omega)
                            have i2 : (id : Int) < (m : Int) := by omega
                            have i3 : (0 : Int) ≤ (id : Int) := by omega
                            obtain ⟨q0, z0, l0⟩ := hOt.out.cell hidm
                            clear i0 i1
                            by_cases i4 : geti ot id = -1
                            · have q0' : wr.cell? ⟨q, id, none⟩ = some (.bool false) := by rw [q0]; simp [i4]
                              have hst := hide (show ownStep x ot d = some (ot.set id x) from by rw [hst0.out, Int.toNat_natCast, if_neg (by omega)])
                              clear q0 i4 hst0 hbadI
                              have O4 := hide (hOt.out.alloc (Obj.cells #[.int .i64 (id : Int), .int .i64 val, .bool gl, .slice V vs.length cv] 86))
                              have o4 := hide (hoj.out.alloc (Obj.cells #[.int .i64 (id : Int), .int .i64 val, .bool gl, .slice V vs.length cv] 86))
                              have R0 := hide (show LkR (w.heap.size + 1) wr.heap.size q n id m V vs cv #[.int .i64 s.kind, .slice s.pc.A s.pc.n s.pc.c, .slice s.F.A s.F.n s.F.c, .slice s.mem.A s.mem.n s.mem.c, .slice s.bufs.A s.bufs.n s.bufs.c, .slice s.H.A s.H.n s.H.c, .slice s.view.A s.view.n s.view.c, .slice s.sc.A s.sc.n s.sc.c, .int .i64 (m : Int)] #[.int .i64 (id : Int), .int .i64 val, .bool gl, .slice V vs.length cv] s (wr.alloc (Obj.cells #[.int .i64 (id : Int), .int .i64 val, .bool gl, .slice V vs.length cv] 86)) from
                                ⟨Kr.out.alloc _, Blk.new _ _ _, ⟨((below1 wr _).cell (p := ⟨q, id, none⟩) l0).trans q0', by simp only [World.size_alloc]; omega⟩, Sr.out.next (below1 wr _), hvi0.out _⟩)
                              go_wp2_with fail
                              obtain ⟨w4, hw4⟩ : ∃ wq, wq = wr.alloc (Obj.cells #[.int .i64 (id : Int), .int .i64 val, .bool gl, .slice V vs.length cv] 86) := ⟨_, rfl⟩
                              rw [← hw4] at R0 O4 o4 ⊢
                              have hz4 : wr.heap.size ≤ w4.heap.size := by rw [hw4]; simp
                              clear hw4
                              obtain ⟨U, hU⟩ : ∃ U, U = wr.heap.size := ⟨_, rfl⟩
                              rw [← hU] at R0 ⊢
                              replace R0 := hide (R0.out.next (Below.refl _ _).drew)
                              replace O4 := hide (O4.out.next (Below.refl _ _).drew)
                              replace o4 := hide o4.out.drew
                              clear kx5 kx8 p0 p1 p2 p3 q0' z0 hcell hvi0 hOt hoj hU
                              have k4 := hide (fun (wX : World) (h : LkR (w.heap.size + 1) U q n id m V vs cv #[.int .i64 s.kind, .slice s.pc.A s.pc.n s.pc.c, .slice s.F.A s.F.n s.F.c, .slice s.mem.A s.mem.n s.mem.c, .slice s.bufs.A s.bufs.n s.bufs.c, .slice s.H.A s.H.n s.H.c, .slice s.view.A s.view.n s.view.c, .slice s.sc.A s.sc.n s.sc.c, .int .i64 (m : Int)] #[.int .i64 (id : Int), .int .i64 val, .bool gl, .slice V vs.length cv] s wX) => k4.out wX V vs cv h.st (h.box.cell 5) h.box.lt h.vi)
                              cases hvb : viewB s.H.hs vs
                              · rw [hvb] at k4
                                have hE := hide (hbadP.out (by rw [hpb.out, hvb]; rfl))
                                refine wp_region_held_drew (S := (fun w' => (w'.cell? ⟨w.heap.size + 1, 5, none⟩ = some (.slice s.H.A s.H.n s.H.c) ∧ w'.cell? ⟨w.heap.size + 1, 8, none⟩ = some (.int .i64 (m : Int))) ∧ (w'.cell? ⟨U, 0, none⟩ = some (.int .i64 (id : Int)) ∧ w'.cell? ⟨U, 3, none⟩ = some (.slice V vs.length cv)) ∧ w'.cell? ⟨q, id, none⟩ = some (.bool false))) (by kernel_rfl) ?_ (fun hHeld => ?_)
                                · exact R0.out.cells
                                refine wpAnyH_take (i := 0) (oi := { dst := some 91, op := Op.fieldAddr 86 (Operand.tmp 8) 0, type := 0, pos := "l04_view.go:93", after := #[], guard := none }) (v := ?_) rfl (by kernel_rfl) (by kernel_rfl) (by kernel_rfl) (fun _ _ _ h => h) (Or.inl ⟨by rfl, ?_⟩) hHeld ?_
                                rotate_left
                                · (intro wq hSw; (try dsimp only at hSw); first | (go_simp; done) | (go_simp; with_reducible rfl))
                                try simp only [Act.put, List.setIfInBounds_toArray, List.set_cons_zero, List.set_cons_succ]
                                refine wpAnyH_take (i := 1) (oi := { dst := some 92, op := Op.load 3 (Operand.tmp 91), type := 3, pos := "l04_view.go:93", after := #[{ on := 0, ground := Ground.data }], guard := none }) (v := ?_) rfl (by kernel_rfl) (by kernel_rfl) (by kernel_rfl) (fun _ _ _ h => h) (Or.inl ⟨by rfl, ?_⟩) hHeld ?_
                                rotate_left
                                · (intro wq hSw; (try dsimp only at hSw); first | (go_simp; done) | (go_simp; with_reducible rfl))
                                try simp only [Act.put, List.setIfInBounds_toArray, List.set_cons_zero, List.set_cons_succ]
                                refine wpAnyH_take (i := 2) (oi := { dst := some 93, op := Op.binOp BinOp.lss 3 (Operand.tmp 92) (Operand.const (Value.int IntKind.i64 0)) 3, type := 4, pos := "l04_view.go:93", after := #[{ on := 1, ground := Ground.data }], guard := none }) (v := ?_) rfl (by kernel_rfl) (by kernel_rfl) (by kernel_rfl) (fun _ _ _ h => h) (Or.inl ⟨by rfl, ?_⟩) hHeld ?_
                                rotate_left
                                · (intro wq hSw; (try dsimp only at hSw); first | (go_simp; done) | (go_simp; with_reducible rfl))
                                try simp only [Act.put, List.setIfInBounds_toArray, List.set_cons_zero, List.set_cons_succ]
                                refine wpAnyH_take (i := 3) (oi := { dst := some 94, op := Op.move (Operand.tmp 93), type := 4, pos := "l04_view.go:93", after := #[{ on := 2, ground := Ground.data }], guard := none }) (v := ?_) rfl (by kernel_rfl) (by kernel_rfl) (by kernel_rfl) (fun _ _ _ h => h) (Or.inl ⟨by rfl, ?_⟩) hHeld ?_
                                rotate_left
                                · (intro wq hSw; (try dsimp only at hSw); first | (go_simp; done) | (go_simp; with_reducible rfl))
                                try simp only [Act.put, List.setIfInBounds_toArray, List.set_cons_zero, List.set_cons_succ]
                                refine wpAnyH_take (i := 4) (oi := { dst := some 95, op := Op.fieldAddr 86 (Operand.tmp 8) 0, type := 0, pos := "l04_view.go:93", after := #[{ on := 3, ground := Ground.guard }], guard := some (3, false) }) (v := ?_) rfl (by kernel_rfl) (by kernel_rfl) (by kernel_rfl) (fun _ _ _ h => h) (Or.inl ⟨by rfl, ?_⟩) hHeld ?_
                                rotate_left
                                · (intro wq hSw; (try dsimp only at hSw); first | (go_simp; done) | (go_simp; with_reducible rfl))
                                try simp only [Act.put, List.setIfInBounds_toArray, List.set_cons_zero, List.set_cons_succ]
                                refine wpAnyH_take (i := 5) (oi := { dst := some 96, op := Op.load 3 (Operand.tmp 95), type := 3, pos := "l04_view.go:93", after := #[{ on := 4, ground := Ground.data }, { on := 3, ground := Ground.guard }], guard := some (3, false) }) (v := ?_) rfl (by kernel_rfl) (by kernel_rfl) (by kernel_rfl) (fun _ _ _ h => h) (Or.inl ⟨by rfl, ?_⟩) hHeld ?_
                                rotate_left
                                · (intro wq hSw; (try dsimp only at hSw); first | (go_simp; done) | (go_simp; with_reducible rfl))
                                try simp only [Act.put, List.setIfInBounds_toArray, List.set_cons_zero, List.set_cons_succ]
                                refine wpAnyH_take (i := 6) (oi := { dst := some 97, op := Op.fieldAddr 48 (Operand.tmp 3) 8, type := 0, pos := "l04_view.go:93", after := #[{ on := 3, ground := Ground.guard }], guard := some (3, false) }) (v := ?_) rfl (by kernel_rfl) (by kernel_rfl) (by kernel_rfl) (fun _ _ _ h => h) (Or.inl ⟨by rfl, ?_⟩) hHeld ?_
                                rotate_left
                                · (intro wq hSw; (try dsimp only at hSw); first | (go_simp; done) | (go_simp; with_reducible rfl))
                                try simp only [Act.put, List.setIfInBounds_toArray, List.set_cons_zero, List.set_cons_succ]
                                refine wpAnyH_take (i := 7) (oi := { dst := some 98, op := Op.load 3 (Operand.tmp 97), type := 3, pos := "l04_view.go:93", after := #[{ on := 6, ground := Ground.data }, { on := 3, ground := Ground.guard }], guard := some (3, false) }) (v := ?_) rfl (by kernel_rfl) (by kernel_rfl) (by kernel_rfl) (fun _ _ _ h => h) (Or.inl ⟨by rfl, ?_⟩) hHeld ?_
                                rotate_left
                                · (intro wq hSw; (try dsimp only at hSw); first | (go_simp; done) | (go_simp; with_reducible rfl))
                                try simp only [Act.put, List.setIfInBounds_toArray, List.set_cons_zero, List.set_cons_succ]
                                refine wpAnyH_take (i := 8) (oi := { dst := some 99, op := Op.binOp BinOp.geq 3 (Operand.tmp 96) (Operand.tmp 98) 3, type := 4, pos := "l04_view.go:93", after := #[{ on := 5, ground := Ground.data }, { on := 7, ground := Ground.data }, { on := 3, ground := Ground.guard }], guard := some (3, false) }) (v := ?_) rfl (by kernel_rfl) (by kernel_rfl) (by kernel_rfl) (fun _ _ _ h => h) (Or.inl ⟨by rfl, ?_⟩) hHeld ?_
                                rotate_left
                                · (intro wq hSw; (try dsimp only at hSw); first | (go_simp; done) | (go_simp; with_reducible rfl))
                                try simp only [Act.put, List.setIfInBounds_toArray, List.set_cons_zero, List.set_cons_succ]
                                refine wpAnyH_take (i := 9) (oi := { dst := some 100, op := Op.pick (Operand.tmp 94) (Operand.const (Value.bool true)) (Operand.tmp 99), type := 4, pos := "l04_view.go:93", after := #[{ on := 3, ground := Ground.data }, { on := 8, ground := Ground.data }], guard := none }) (v := ?_) rfl (by kernel_rfl) (by kernel_rfl) (by kernel_rfl) (fun _ _ _ h => h) (Or.inl ⟨by rfl, ?_⟩) hHeld ?_
                                rotate_left
                                · (intro wq hSw; (try dsimp only at hSw); first | (go_simp; done) | (go_simp; with_reducible rfl))
                                try simp only [Act.put, List.setIfInBounds_toArray, List.set_cons_zero, List.set_cons_succ]
                                refine wpAnyH_take (i := 10) (oi := { dst := some 101, op := Op.move (Operand.tmp 100), type := 4, pos := "l04_view.go:93", after := #[{ on := 9, ground := Ground.data }, { on := 3, ground := Ground.chain }], guard := none }) (v := ?_) rfl (by kernel_rfl) (by kernel_rfl) (by kernel_rfl) (fun _ _ _ h => h) (Or.inl ⟨by rfl, ?_⟩) hHeld ?_
                                rotate_left
                                · (intro wq hSw; (try dsimp only at hSw); first | (go_simp; done) | (go_simp; with_reducible rfl))
                                try simp only [Act.put, List.setIfInBounds_toArray, List.set_cons_zero, List.set_cons_succ]
                                refine wpAnyH_take (i := 11) (oi := { dst := some 102, op := Op.move (Operand.tmp 5), type := 195, pos := "l04_view.go:93", after := #[{ on := 10, ground := Ground.guard }], guard := some (10, false) }) (v := ?_) rfl (by kernel_rfl) (by kernel_rfl) (by kernel_rfl) (fun _ _ _ h => h) (Or.inl ⟨by rfl, ?_⟩) hHeld ?_
                                rotate_left
                                · (intro wq hSw; (try dsimp only at hSw); first | (go_simp; done) | (go_simp; with_reducible rfl))
                                try simp only [Act.put, List.setIfInBounds_toArray, List.set_cons_zero, List.set_cons_succ]
                                refine wpAnyH_take (i := 12) (oi := { dst := some 103, op := Op.fieldAddr 86 (Operand.tmp 8) 0, type := 0, pos := "l04_view.go:93", after := #[{ on := 10, ground := Ground.guard }], guard := some (10, false) }) (v := ?_) rfl (by kernel_rfl) (by kernel_rfl) (by kernel_rfl) (fun _ _ _ h => h) (Or.inl ⟨by rfl, ?_⟩) hHeld ?_
                                rotate_left
                                · (intro wq hSw; (try dsimp only at hSw); first | (go_simp; done) | (go_simp; with_reducible rfl))
                                try simp only [Act.put, List.setIfInBounds_toArray, List.set_cons_zero, List.set_cons_succ]
                                refine wpAnyH_take (i := 13) (oi := { dst := some 104, op := Op.load 3 (Operand.tmp 103), type := 3, pos := "l04_view.go:93", after := #[{ on := 12, ground := Ground.data }, { on := 10, ground := Ground.guard }], guard := some (10, false) }) (v := ?_) rfl (by kernel_rfl) (by kernel_rfl) (by kernel_rfl) (fun _ _ _ h => h) (Or.inl ⟨by rfl, ?_⟩) hHeld ?_
                                rotate_left
                                · (intro wq hSw; (try dsimp only at hSw); first | (go_simp; done) | (go_simp; with_reducible rfl))
                                try simp only [Act.put, List.setIfInBounds_toArray, List.set_cons_zero, List.set_cons_succ]
                                refine wpAnyH_take (i := 14) (oi := { dst := some 105, op := Op.indexAddr 195 (Operand.tmp 102) (Operand.tmp 104), type := 0, pos := "l04_view.go:93", after := #[{ on := 11, ground := Ground.data }, { on := 13, ground := Ground.data }, { on := 10, ground := Ground.guard }], guard := some (10, false) }) (v := ?_) rfl (by kernel_rfl) (by kernel_rfl) (by kernel_rfl) (fun _ _ _ h => h) (Or.inl ⟨by rfl, ?_⟩) hHeld ?_
                                rotate_left
                                · (intro wq hSw; (try dsimp only at hSw); first | (go_simp; done) | (go_simp; with_reducible rfl))
                                try simp only [Act.put, List.setIfInBounds_toArray, List.set_cons_zero, List.set_cons_succ]
                                refine wpAnyH_take (i := 15) (oi := { dst := some 106, op := Op.load 4 (Operand.tmp 105), type := 4, pos := "l04_view.go:93", after := #[{ on := 14, ground := Ground.data }, { on := 10, ground := Ground.guard }], guard := some (10, false) }) (v := ?_) rfl (by kernel_rfl) (by kernel_rfl) (by kernel_rfl) (fun _ _ _ h => h) (Or.inl ⟨by rfl, ?_⟩) hHeld ?_
                                rotate_left
                                · (intro wq hSw; (try dsimp only at hSw); first | (go_simp; done) | (go_simp; with_reducible rfl))
                                try simp only [Act.put, List.setIfInBounds_toArray, List.set_cons_zero, List.set_cons_succ]
                                refine wpAnyH_take (i := 16) (oi := { dst := some 107, op := Op.pick (Operand.tmp 101) (Operand.const (Value.bool true)) (Operand.tmp 106), type := 4, pos := "l04_view.go:93", after := #[{ on := 10, ground := Ground.data }, { on := 15, ground := Ground.data }], guard := none }) (v := ?_) rfl (by kernel_rfl) (by kernel_rfl) (by kernel_rfl) (fun _ _ _ h => h) (Or.inl ⟨by rfl, ?_⟩) hHeld ?_
                                rotate_left
                                · (intro wq hSw; (try dsimp only at hSw); first | (go_simp; done) | (go_simp; with_reducible rfl))
                                try simp only [Act.put, List.setIfInBounds_toArray, List.set_cons_zero, List.set_cons_succ]
                                refine wpAnyH_take (i := 17) (oi := { dst := some 108, op := Op.move (Operand.tmp 107), type := 4, pos := "l04_view.go:93", after := #[{ on := 16, ground := Ground.data }, { on := 10, ground := Ground.chain }], guard := none }) (v := ?_) rfl (by kernel_rfl) (by kernel_rfl) (by kernel_rfl) (fun _ _ _ h => h) (Or.inl ⟨by rfl, ?_⟩) hHeld ?_
                                rotate_left
                                · (intro wq hSw; (try dsimp only at hSw); first | (go_simp; done) | (go_simp; with_reducible rfl))
                                try simp only [Act.put, List.setIfInBounds_toArray, List.set_cons_zero, List.set_cons_succ]
                                refine wpAnyH_take (i := 18) (oi := { dst := some 109, op := Op.fieldAddr 86 (Operand.tmp 8) 3, type := 0, pos := "l04_view.go:93", after := #[{ on := 17, ground := Ground.guard }], guard := some (17, false) }) (v := ?_) rfl (by kernel_rfl) (by kernel_rfl) (by kernel_rfl) (fun _ _ _ h => h) (Or.inl ⟨by rfl, ?_⟩) hHeld ?_
                                rotate_left
                                · (intro wq hSw; (try dsimp only at hSw); first | (go_simp; done) | (go_simp; with_reducible rfl))
                                try simp only [Act.put, List.setIfInBounds_toArray, List.set_cons_zero, List.set_cons_succ]
                                refine wpAnyH_take (i := 19) (oi := { dst := some 110, op := Op.load 22 (Operand.tmp 109), type := 22, pos := "l04_view.go:93", after := #[{ on := 18, ground := Ground.data }, { on := 17, ground := Ground.guard }], guard := some (17, false) }) (v := ?_) rfl (by kernel_rfl) (by kernel_rfl) (by kernel_rfl) (fun _ _ _ h => h) (Or.inl ⟨by rfl, ?_⟩) hHeld ?_
                                rotate_left
                                · (intro wq hSw; (try dsimp only at hSw); first | (go_simp; done) | (go_simp; with_reducible rfl))
                                try simp only [Act.put, List.setIfInBounds_toArray, List.set_cons_zero, List.set_cons_succ]
                                refine wpAnyH_ready (rs := [20]) (by kernel_rfl) (by simp) ?_
                                refine AllReadyH.cons (o := { dst := some 111, op := Op.call { callee := Callee.value (Operand.func 158), args := #[Operand.tmp 3, Operand.tmp 110], argTypes := #[146, 22] }, type := 4, pos := "l04_view.go:93", after := #[{ on := 19, ground := Ground.data }, { on := 17, ground := Ground.chain }, { on := 17, ground := Ground.guard }], guard := some (17, false) }) rfl (fun K hK => ?_) AllReadyH.nil
                                go_simp
                                go_at_call 158; refine (k4.out _ R0.out).mono ?_; rintro e w5 ⟨rfl, hb5⟩; have R5 := hide (R0.out.next hb5); have O5 := hide (Only.of_below (g := q) hb5)
                                refine hK.out _ _ ?_ (fun hHeldN => ?_)
                                · exact R5.out.cells
                                clear hK K hHeld
                                have hHeld := hHeldN
                                clear hHeldN
                                try simp only [Act.put, List.setIfInBounds_toArray, List.set_cons_zero, List.set_cons_succ]
                                refine wpAnyH_take (i := 21) (oi := { dst := some 112, op := Op.unOp UnOp.not 4 (Operand.tmp 111), type := 4, pos := "l04_view.go:93", after := #[{ on := 20, ground := Ground.data }, { on := 17, ground := Ground.guard }], guard := some (17, false) }) (v := ?_) rfl (by kernel_rfl) (by kernel_rfl) (by kernel_rfl) (fun _ _ _ h => h) (Or.inl ⟨by rfl, ?_⟩) hHeld ?_
                                rotate_left
                                · (intro wq hSw; (try dsimp only at hSw); first | (go_simp; done) | (go_simp; with_reducible rfl))
                                try simp only [Act.put, List.setIfInBounds_toArray, List.set_cons_zero, List.set_cons_succ]
                                refine wpAnyH_take (i := 22) (oi := { dst := some 113, op := Op.pick (Operand.tmp 108) (Operand.const (Value.bool true)) (Operand.tmp 112), type := 4, pos := "l04_view.go:93", after := #[{ on := 17, ground := Ground.data }, { on := 21, ground := Ground.data }], guard := none }) (v := ?_) rfl (by kernel_rfl) (by kernel_rfl) (by kernel_rfl) (fun _ _ _ h => h) (Or.inl ⟨by rfl, ?_⟩) hHeld ?_
                                rotate_left
                                · (intro wq hSw; (try dsimp only at hSw); first | (go_simp; done) | (go_simp; with_reducible rfl))
                                try simp only [Act.put, List.setIfInBounds_toArray, List.set_cons_zero, List.set_cons_succ]
                                refine wpAnyH_take (i := 23) (oi := { dst := some 114, op := Op.move (Operand.tmp 113), type := 4, pos := "l04_view.go:93", after := #[{ on := 22, ground := Ground.data }, { on := 20, ground := Ground.chain }], guard := none }) (v := ?_) rfl (by kernel_rfl) (by kernel_rfl) (by kernel_rfl) (fun _ _ _ h => h) (Or.inl ⟨by rfl, ?_⟩) hHeld ?_
                                rotate_left
                                · (intro wq hSw; (try dsimp only at hSw); first | (go_simp; done) | (go_simp; with_reducible rfl))
                                try simp only [Act.put, List.setIfInBounds_toArray, List.set_cons_zero, List.set_cons_succ]
                                refine wpAnyH_take (i := 24) (oi := { dst := some 115, op := Op.fieldAddr 86 (Operand.tmp 8) 3, type := 0, pos := "l04_view.go:93", after := #[{ on := 23, ground := Ground.guard }], guard := some (23, false) }) (v := undef) rfl (by kernel_rfl) (by kernel_rfl) (by kernel_rfl) (fun _ _ _ h => h) (Or.inr ⟨by rfl, rfl⟩) hHeld ?_
                                try simp only [Act.put, List.setIfInBounds_toArray, List.set_cons_zero, List.set_cons_succ]
                                refine wpAnyH_take (i := 25) (oi := { dst := some 116, op := Op.load 22 (Operand.tmp 115), type := 22, pos := "l04_view.go:93", after := #[{ on := 24, ground := Ground.data }, { on := 23, ground := Ground.guard }], guard := some (23, false) }) (v := undef) rfl (by kernel_rfl) (by kernel_rfl) (by kernel_rfl) (fun _ _ _ h => h) (Or.inr ⟨by rfl, rfl⟩) hHeld ?_
                                try simp only [Act.put, List.setIfInBounds_toArray, List.set_cons_zero, List.set_cons_succ]
                                refine wpAnyH_take (i := 26) (oi := { dst := some 117, op := Op.move (Operand.tmp 6), type := 3, pos := "l04_view.go:93", after := #[{ on := 23, ground := Ground.guard }], guard := some (23, false) }) (v := undef) rfl (by kernel_rfl) (by kernel_rfl) (by kernel_rfl) (fun _ _ _ h => h) (Or.inr ⟨by rfl, rfl⟩) hHeld ?_
                                try simp only [Act.put, List.setIfInBounds_toArray, List.set_cons_zero, List.set_cons_succ]
                                refine wpAnyH_take (i := 27) (oi := { dst := some 118, op := Op.indexAddr 22 (Operand.tmp 116) (Operand.tmp 117), type := 0, pos := "l04_view.go:93", after := #[{ on := 25, ground := Ground.data }, { on := 26, ground := Ground.data }, { on := 23, ground := Ground.guard }], guard := some (23, false) }) (v := undef) rfl (by kernel_rfl) (by kernel_rfl) (by kernel_rfl) (fun _ _ _ h => h) (Or.inr ⟨by rfl, rfl⟩) hHeld ?_
                                try simp only [Act.put, List.setIfInBounds_toArray, List.set_cons_zero, List.set_cons_succ]
                                refine wpAnyH_take (i := 28) (oi := { dst := some 119, op := Op.load 3 (Operand.tmp 118), type := 3, pos := "l04_view.go:93", after := #[{ on := 27, ground := Ground.data }, { on := 23, ground := Ground.guard }], guard := some (23, false) }) (v := undef) rfl (by kernel_rfl) (by kernel_rfl) (by kernel_rfl) (fun _ _ _ h => h) (Or.inr ⟨by rfl, rfl⟩) hHeld ?_
                                try simp only [Act.put, List.setIfInBounds_toArray, List.set_cons_zero, List.set_cons_succ]
                                refine wpAnyH_take (i := 29) (oi := { dst := some 120, op := Op.fieldAddr 86 (Operand.tmp 8) 0, type := 0, pos := "l04_view.go:93", after := #[{ on := 23, ground := Ground.guard }], guard := some (23, false) }) (v := undef) rfl (by kernel_rfl) (by kernel_rfl) (by kernel_rfl) (fun _ _ _ h => h) (Or.inr ⟨by rfl, rfl⟩) hHeld ?_
                                try simp only [Act.put, List.setIfInBounds_toArray, List.set_cons_zero, List.set_cons_succ]
                                refine wpAnyH_take (i := 30) (oi := { dst := some 121, op := Op.load 3 (Operand.tmp 120), type := 3, pos := "l04_view.go:93", after := #[{ on := 29, ground := Ground.data }, { on := 23, ground := Ground.guard }], guard := some (23, false) }) (v := undef) rfl (by kernel_rfl) (by kernel_rfl) (by kernel_rfl) (fun _ _ _ h => h) (Or.inr ⟨by rfl, rfl⟩) hHeld ?_
                                try simp only [Act.put, List.setIfInBounds_toArray, List.set_cons_zero, List.set_cons_succ]
                                refine wpAnyH_take (i := 31) (oi := { dst := some 122, op := Op.binOp BinOp.neq 3 (Operand.tmp 119) (Operand.tmp 121) 3, type := 4, pos := "l04_view.go:93", after := #[{ on := 28, ground := Ground.data }, { on := 30, ground := Ground.data }, { on := 23, ground := Ground.guard }], guard := some (23, false) }) (v := undef) rfl (by kernel_rfl) (by kernel_rfl) (by kernel_rfl) (fun _ _ _ h => h) (Or.inr ⟨by rfl, rfl⟩) hHeld ?_
                                try simp only [Act.put, List.setIfInBounds_toArray, List.set_cons_zero, List.set_cons_succ]
                                refine wpAnyH_take (i := 32) (oi := { dst := some 123, op := Op.pick (Operand.tmp 114) (Operand.const (Value.bool true)) (Operand.tmp 122), type := 4, pos := "l04_view.go:93", after := #[{ on := 23, ground := Ground.data }, { on := 31, ground := Ground.data }], guard := none }) (v := ?_) rfl (by kernel_rfl) (by kernel_rfl) (by kernel_rfl) (fun _ _ _ h => h) (Or.inl ⟨by rfl, ?_⟩) hHeld ?_
                                rotate_left
                                · (intro wq hSw; (try dsimp only at hSw); first | (go_simp; done) | (go_simp; with_reducible rfl))
                                try simp only [Act.put, List.setIfInBounds_toArray, List.set_cons_zero, List.set_cons_succ]
                                refine wpAnyH_done (by kernel_rfl) ?_ _
                                have Bz := hide (B2.out.trans (only_lo (o4.out.trans O5.out) (by omega) B2.out.size))
                                go_wp2_with fail
                                go_ret
                                exact ⟨ret_bool hE.out.symm, Bz.out⟩
                              · rw [hvb] at k4
                                have hvl : vs.length = s.H.hs.length := by unfold viewB at hvb; simp at hvb; exact hvb.1
                                obtain ⟨bv, ov, rfl, hSv, hcv2⟩ := R0.out.vi.2 (by omega)
                                have hcell2 := hcv2 x (by omega)
                                have hxl : (x : Int) < (vs.length : Int) := by omega
                                have hbv : bv < w4.drew.heap.size := Nat.lt_of_lt_of_le (hS bv hSv) (Nat.le_trans Br.out.size hz4)
                                obtain ⟨vx, hvx⟩ : ∃ vx, vx = geti vs x := ⟨_, rfl⟩
                                rw [← hvx] at hcell2
                                replace hvl := hide hvl
                                clear hcv2
                                go_region_held3 (fun w' => ((w'.cell? ⟨w.heap.size + 1, 5, none⟩ = some (.slice s.H.A s.H.n s.H.c) ∧ w'.cell? ⟨w.heap.size + 1, 8, none⟩ = some (.int .i64 (m : Int))) ∧ (w'.cell? ⟨U, 0, none⟩ = some (.int .i64 (id : Int)) ∧ w'.cell? ⟨U, 3, none⟩ = some (.slice (some ⟨bv, ov, none⟩) vs.length cv)) ∧ w'.cell? ⟨q, id, none⟩ = some (.bool false)) ∧ w'.cell? ⟨bv, ov + x, none⟩ = some (.int .i64 vx))
                                  (first | exact ⟨R0.out.cells, hcell2⟩ | exact ⟨R5.out.cells, hc5⟩)
                                  (first
                                  | (go_at_call 158; refine (k4.out _ R0.out).mono ?_; rintro e w5 ⟨rfl, hb5⟩; have R5 := hide (R0.out.next hb5); have O5 := hide (Only.of_below (g := q) hb5); have hc5 := (hb5.cell (p := ⟨bv, ov + x, none⟩) hbv).trans hcell2))
                                have Oz := hide (o4.out.trans O5.out)
                                have Sz := hide (O4.out.next hb5)
                                have Bz := hide (B2.out.trans (only_lo Oz.out (by omega) B2.out.size))
                                by_cases he : vx = (id : Int)
                                · have he' : (vx != (id : Int)) = false := by simp [he]
                                  have he2 : (vx == (id : Int)) = true := by simp [he]
                                  have hpt := hide (show postB s.H.hs x d = true from by rw [hpb.out, hvb, ← hvx]; simp [he])
                                  obtain ⟨zc, zf, zl⟩ := Sz.out.cell hidm
                                  have zp := R5.out.cells.2.1.1
                                  have zpl := R5.out.post.lt
                                  clear he
                                  go_wp2_with fail
                                  go_roundw
                                  case rel => exact ⟨j + 1, ot.set id x, by omega, by go_num, hide (by rw [ownTo, ht.out, Option.bind_some, ← hd.out]; exact hst.out), hide (fun k hk => by
                                    rcases Nat.lt_succ_iff_lt_or_eq.1 hk with h | rfl
                                    · exact hdj.out k h
                                    · rw [← hd.out]; exact hpt.out), hide (Sz.out.set hidm), hide (Oz.out.setCell (p := ⟨q, id, none⟩) (.inl rfl) _)⟩
                                  case measure => simp [intOf]; omega
                                · have he' : (vx != (id : Int)) = true := by rw [bne_iff_ne]; exact he
                                  have he2 : (vx == (id : Int)) = false := by rw [beq_eq_false_iff_ne]; exact he
                                  have hE := hide (hbadP.out (by rw [hpb.out, hvb, ← hvx]; simp [he]))
                                  clear he
                                  go_wp2_with fail
                                  go_ret
                                  exact ⟨ret_bool hE.out.symm, Bz.out⟩
                            · have q0' : wr.cell? ⟨q, id, none⟩ = some (.bool true) := by rw [q0]; simp [i4]
                              have hE := hide (hbadI.out (by rw [hst0.out, if_pos (.inr (.inr (by rw [Int.toNat_natCast]; exact i4)))]))
                              clear q0
                              go_wp2_with fail
                              go_quiet (fail)
                              go_wp2_with fail
                              go_ret
                              exact ⟨ret_bool hE.out.symm, below_drewN (Br.out.alloc Br.out.size _) _⟩
                      · obtain rfl : j = l.length := by omega
                        go_wp2_with fail
                        go_roundw
                        case rel => exact ⟨x + 1, ot, by omega, by go_num, hide (by rw [ownAll, hos.out, ← hl0.out]; simp only [Option.bind_some, headB, hz, hg]; exact ht.out), hide (fun y hy => by
                          rcases Nat.lt_succ_iff_lt_or_eq.1 hy with h | rfl
                          · exact hdn.out y h
                          · rw [← hl0.out]; exact allB_yes hdj.out), hOt, hoj⟩
                        case measure => simp [intOf]; omega
                  · have hE := hide (hnone.out (by rw [ownAll, hos.out, ← hl0.out]; simp [headB, hg]))
                    rw [hg] at g2
                    go_wp2_with fail
                    go_ret
                    exact ⟨ret_bool hE.out.symm, Br.out⟩
              · obtain rfl : x = s.H.hs.length := by omega
                have hfoS := hide (show (foI n1 s.next s.H.hs).isSome = true from by rw [hfo.out, hos.out]; rfl)
                have hps := hide (show postsB s.H.hs = true from allB_yes hdn.out)
                have hE0 := hide (show res = allB (fun k => viewB s.H.hs (getr s.view.rs k).zs) s.view.rs.length from by
                  rw [hres.out]; unfold viewsB; rw [hfoS.out, hps.out, hv]; simp [hlV, x2.out])
                have kx6 : wr.cell? ⟨w.heap.size + 1, 6, none⟩ = some (.slice s.view.A s.view.n s.view.c) := Kr.out.cell 6
                have hnl : decide ((s.H.hs.length : Int) < (s.H.n : Int)) = false := decide_eq_false (by omega)
                have hnl2 : ¬ ((s.H.hs.length : Int) < (s.H.n : Int)) := by omega
                replace hlH := hide hlH
                replace hlV := hide hlV
                replace hlS := hide hlS
                go_wp2_with fail
                clear kx5 kx6 hfoS hps hdn hos hO
                go_loopw [9] (fun i ws => ∃ (t : Nat), t ≤ s.view.rs.length ∧ i = .int .i64 t ∧ Hid (∀ j, j < t → viewB s.H.hs (getr s.view.rs j).zs = true) ∧ Hid (Only q w2 ws)) (fun i _ => s.view.rs.length - (intOf i).toNat)
                case atStart => exact ⟨0, Nat.zero_le _, rfl, hide (fun j hj => by omega), ho⟩
                case round =>
                  clear ho Br Kr Sr
                  obtain ⟨t, ht, rfl, hdt, hot⟩ := hrel
                  have hzt := hot.out.size
                  have Br := hide (B2.out.trans (only_lo hot.out (by omega) B2.out.size))
                  have Kr := hide (K2.out.only hot.out (by omega))
                  have Sr := hide (hs.next Br.out)
                  have lg := Kr.out.lt
                  have kx6 : wr.cell? ⟨w.heap.size + 1, 6, none⟩ = some (.slice s.view.A s.view.n s.view.c) := Kr.out.cell 6
                  by_cases htl : t < s.view.rs.length
                  · obtain ⟨b, off, eA, hSb, hc⟩ := Sr.out.view.2 (by omega)
                    rw [eA] at kx6
                    replace eA := hide eA
                    obtain ⟨A', c', hcell, hvi⟩ := hc t htl
                    have htl' : (t : Int) < (s.view.n : Int) := by have := hlV.out; omega
                    have ht0 : (0 : Int) ≤ (t : Int) := by omega
                    have hbl := Nat.lt_of_lt_of_le (hS b hSb) Br.out.size
                    have hek := hl.out.eV t htl
                    have k5 := k4.out wr A' (getr s.view.rs t).zs c' Sr.out (Kr.out.cell 5) lg hvi
                    rw [hek] at k5
                    replace k5 := hide k5
                    clear hc hek hvi
                    go_wp2_with fail
                    refine k5.out.mono ?_
                    rintro e w5 ⟨rfl, hb5⟩
                    have O5 := hide (hot.out.trans (Only.of_below (g := q) hb5))
                    have B5 := hide (B2.out.trans (only_lo O5.out (by omega) B2.out.size))
                    clear k5 hcell kx6
                    cases hvt : viewB s.H.hs (getr s.view.rs t).zs
                    · have hE := hide (show res = false from by rw [hE0.out]; exact allB_no htl hvt)
                      go_wp2_with fail
                      go_ret
                      exact ⟨ret_bool hE.out.symm, B5.out⟩
                    · go_wp2_with fail
                      go_roundw
                      case rel => exact ⟨t + 1, by omega, by go_num, hide (fun j hj => by
                        rcases Nat.lt_succ_iff_lt_or_eq.1 hj with h | rfl
                        · exact hdt.out j h
                        · exact hvt), O5⟩
                      case measure => simp [intOf]; omega
                  · obtain rfl : t = s.view.rs.length := by omega
                    have hnl : decide ((s.view.rs.length : Int) < (s.view.n : Int)) = false := decide_eq_false (by have := hlV.out; omega)
                    have hnl2 : ¬ ((s.view.rs.length : Int) < (s.view.n : Int)) := by have := hlV.out; omega
                    have hE := hide (show res = true from by rw [hE0.out]; exact allB_yes hdt.out)
                    go_wp2_with fail
                    go_ret
                    exact ⟨ret_bool hE.out.symm, Br.out⟩
    · have x2' : ((s.view.n : Int) != (n2 : Int)) = true := by rw [bne_iff_ne]; omega
      have hE := hide (show res = false from by rw [hres.out]; unfold viewsB; simp [show ¬ s.view.rs.length = n2 by omega])
      clear x1 x2 hw0
      go_wp2_with fail
      go_ret
      exact ⟨ret_bool hE.out.symm, hb0.out⟩
  · have x1' : ((s.H.n : Int) != (n1 : Int)) = true := by rw [bne_iff_ne]; omega
    have hE := hide (show res = false from by rw [hres.out]; unfold viewsB foI; rw [if_pos (.inr (.inr (by omega)))]; rfl)
    clear x1 hw0
    go_wp2_with fail
    go_ret
    exact ⟨ret_bool hE.out.symm, hb0.out⟩
end Go.Proofs.Ytfkaacfeikmabaa
