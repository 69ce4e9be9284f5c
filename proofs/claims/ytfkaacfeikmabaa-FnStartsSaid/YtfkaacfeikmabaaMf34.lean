/- Quiet, of the program and of the model, alike for every argument. -/
import Derived.Test.YtfkaacfeikmabaaMf0
import Derived.Test.YtfkaacfeikmabaaMf8
import Derived.Test.YtfkaacfeikmabaaMf33
namespace Go.Proofs.Ytfkaacfeikmabaa
open Go.RowKit

set_option maxRecDepth 100000 in
set_option maxHeartbeats 6400000 in
theorem squiet_jmp (o x n pc : Int) (r a b : Nat) (A : Option Addr) (zs : List Int) (c : Nat) (w : World) (hr : r < 6) (ha : a < 6) (hb : b < 6) (hz : zs.length = 6) (hS : IntsAt w (Old w.heap.size) A zs) (ho : (o = 12) ∨ (o = 13 ∧ geti zs a = 0) ∨ (o = 13 ∧ (geti zs a == 0) = false) ∨ (o = 14)) :
    Calls Try.prog 41 #[.agg #[.int .i64 o, .int .i64 r, .int .i64 a, .int .i64 b, .int .i64 x, .int .i64 n], .int .i64 pc, .agg #[.slice A 6 c]] w fun e w' => QuietYes w w' e (quietRow o n r a b zs) (quietPc o n pc a zs) := by
  obtain ⟨i1, hi1, hy0, hy1, hy2⟩ := info_parts Try.infoInt
  have hi1 := hide hi1
  have H0 := hide (((Fr.start (o := o) (r := r) (a := a) (b := b) (x := x) (n := n) (c := c) hS).next ((Below.refl _ _).alloc (Nat.le_refl _) (Obj.cells #[Value.slice none 0 0] 69))).next ((Below.refl _ _).alloc (Nat.le_refl _) (Obj.cells #[] 3)))
  have hR0 := (Blk.new ((w.alloc (Obj.cells #[Value.int .i64 o, Value.int .i64 r, Value.int .i64 a, Value.int .i64 b, Value.int .i64 x, Value.int .i64 n] 72)).alloc (Obj.cells #[Value.slice A zs.length c] 69)) 69 #[.slice none 0 0]).alloc (Obj.cells #[] 3)
  have hown0 := own_lit (((w.alloc (Obj.cells #[Value.int .i64 o, Value.int .i64 r, Value.int .i64 a, Value.int .i64 b, Value.int .i64 x, Value.int .i64 n] 72)).alloc (Obj.cells #[Value.slice A zs.length c] 69)).alloc (Obj.cells #[.slice none 0 0] 69)) (w.heap.size + 1 + 1 + 1) 3 1 0 #[] (by simp) (by omega) rfl
  simp only [World.size_alloc] at hR0 hown0
  rw [hz] at H0 hR0 hown0
  replace hR0 := hide hR0
  replace hown0 := hide hown0
  obtain ⟨bb, off, rfl, hbb, hci⟩ := hS.2 (by omega)
  have hbb : bb < w.heap.size := hbb
  have hnews := hide (news_of_ints H0.out.row)
  have kq := hide (fun w => (show Calls Try.prog 114 #[.int .i64 o] w fun e w' => e = .returned (.bool (spQ o)) ∧ w' = w from l2quiet_any o w))
  have s12 : spQ 12 = false := by decide
  have s13 : spQ 13 = true := by decide
  have s14 : spQ 14 = true := by decide
  have k1 := fun (z : Nat) (hz : z < 6) w => l1reg_any z w
  have kr : ∀ (z : Nat) (hz : z < 6) (w : World), Calls Try.prog 115 #[.int .i64 z] w fun e w' => e = .returned (.bool true) ∧ w = w' := fun z hz w => by
    have := l1reg_any z w
    rwa [show regB z = true from by unfold regB; simp; omega] at this
  replace kr := hide kr
  clear k1
  have hpc : quietPc o n pc a zs = if jumpsB o (geti zs a) then n else wrap64 (pc + 1) := rfl
  have hrow : quietRow o n r a b zs = if o ≤ 6 then zs.set r (calcV o n (geti zs a) (geti zs b)) else zs := rfl
  rw [hpc, hrow, if_neg (show ¬ o ≤ 6 by omega)]
  clear hpc hrow hci
  have ha' : (a : Int) < 6 := by omega
  rcases ho with rfl | ⟨rfl, h1⟩ | ⟨rfl, h1⟩ | rfl
  all_goals
    generalize hP : (if jumpsB _ (geti zs a) = true then n else wrap64 (pc + 1)) = P
    replace hP := hide hP
    go_enter Try.func41, Try.ntmps41
    go_wp2_with (first | (go_at_call 114; refine (kq.out _).mono ?_; rintro e w1 ⟨rfl, rfl⟩) | (go_at_call 115; refine (kr.out _ (by assumption) _).mono ?_; rintro e w1 ⟨rfl, rfl⟩) | (at_builtin; refine wpList_append_lies _ rfl _ _ _ rfl (w.heap.size + 1 + 1 + 1) 3 i1 _ 1 8 Try.underlying22 hi1.out hy0 hy1 hy2 rfl (by omega) (.slice (some ⟨w.heap.size + 1 + 1 + 1, 0, none⟩) 0 0) 0 [] rfl hown0.out ⟨bb, off, none⟩ 6 c (zs.map (Value.int .i64)) rfl (by simp [hz]) hnews.out (by simp [Value.oneCell']) (by omega) (by have : maxLen = 9223372036854775807 := rfl; omega) (by omega) (by simp) _ rfl ?_))
    intro q cq w5 hown hgr hat hlt
    have hB5 := below_grown (B := w.heap.size + 1 + 1 + 1) hgr (fun k hk => by simp [Value.ownBlock]; omega) (by simp)
    have hl5 := hB5.size
    have hR5 := hR0.out.below hB5 (by omega)
    have Q5 := hide (show Qr w _ r a b x n (some ⟨bb, off, none⟩) c zs w5.heap.size q cq zs (w5.alloc (Obj.cells #[Value.slice (some ⟨q, 0, none⟩) 6 cq] 69)) from
      ⟨(H0.out.low hB5 (by omega)).next ((Below.refl _ _).alloc (Nat.le_refl _) _), ⟨_, hR5.alloc _⟩, Blk.new _ _ _, own_keep (by simpa using hown) (fun b _ hlt => Below.heap_alloc w5 _ b hlt), hlt⟩)
    clear hown hgr hat hB5 hR5
    obtain ⟨⟨e1, e2, e3, e4, e5, e7⟩, e6⟩ := Q5.out.fr.cells
    rw [hz] at e6
    obtain ⟨d0, ⟨u, d1⟩, d2⟩ := Q5.out.cells
    have QQ := hide Q5.out
    have hown := QQ.out.row
    have hq0 := (own_blk hown).1
    have hfin := hide (own_setFar (own_base hown (show w.heap.size ≤ w.heap.size + 1 + 1 + 1 by omega)) (p := ⟨w.heap.size + 1 + 1, 0, none⟩) (by simp [Value.ownBlock]; omega) (.slice (some ⟨q, 0, none⟩) 6 cq))
    have hBf := hide QQ.out.fr.below
    clear hown
    have hbb5 : bb < w5.heap.size := by simp only [World.size_alloc] at hl5; omega
    have hrow1 : w5.cell? ⟨bb, off + a, none⟩ = some (.int .i64 (geti zs a)) := by
      obtain ⟨b2, off2, e, -, hc⟩ := QQ.out.fr.row.2 (by omega)
      cases e
      rw [← hc a (by omega)]
      exact ((below1 w5 _).cell (p := ⟨bb, off + a, none⟩) (by show bb < w5.heap.size; simp only [World.size_alloc] at hl5; omega)).symm
    go_wp2_with fail
  · refine bodyPost_ret (v := .tuple #[.agg #[.slice (some ⟨q, 0, none⟩) 6 cq], .int .i64 (wrap64 (pc + 1))]) (by simp [results, Try.results41, go_sem, d1]; done) rfl ⟨⟨q, cq, by rw [← hP.out]; simp [jumpsB], hz, hfin.out⟩, hBf.out.setCell (by show w.heap.size ≤ w.heap.size + 1 + 1; omega) _⟩
  · go_region
    all_goals
      go_wp2_with fail
      refine bodyPost_ret (v := .tuple #[.agg #[.slice (some ⟨q, 0, none⟩) 6 cq], .int .i64 n]) (by simp [results, Try.results41, go_sem, d1]; done) rfl ⟨⟨q, cq, by rw [← hP.out]; simp [jumpsB, h1], hz, hfin.out⟩, ?_⟩
      first | exact hBf.out.setCell (by show w.heap.size ≤ w.heap.size + 1 + 1; omega) _ | exact (hBf.out.setCell (by show w.heap.size ≤ w.heap.size + 1 + 1; omega) _).drew
  · refine bodyPost_ret (v := .tuple #[.agg #[.slice (some ⟨q, 0, none⟩) 6 cq], .int .i64 (wrap64 (pc + 1))]) (by simp [results, Try.results41, go_sem, d1]; done) rfl ⟨⟨q, cq, by have h2 : ¬ geti zs a = 0 := (by simpa using h1); rw [← hP.out]; simp [jumpsB, h2], hz, hfin.out⟩, hBf.out.setCell (by show w.heap.size ≤ w.heap.size + 1 + 1; omega) _⟩
  · go_region
    all_goals
      go_wp2_with fail
      refine bodyPost_ret (v := .tuple #[.agg #[.slice (some ⟨q, 0, none⟩) 6 cq], .int .i64 n]) (by simp [results, Try.results41, go_sem, d1]; done) rfl ⟨⟨q, cq, by rw [← hP.out]; simp [jumpsB], hz, hfin.out⟩, ?_⟩
      first | exact hBf.out.setCell (by show w.heap.size ≤ w.heap.size + 1 + 1; omega) _ | exact (hBf.out.setCell (by show w.heap.size ≤ w.heap.size + 1 + 1; omega) _).drew
end Go.Proofs.Ytfkaacfeikmabaa

namespace Go.Proofs.Ytfkaacfeikmabaa
open Go.RowKit

def qRow (o r a b n : Int) (zs : List Int) : List Int := if quietOk o r a b zs then quietRow o n r.toNat a.toNat b.toNat zs else []
def qPc (o r a b n pc : Int) (zs : List Int) : Int := if quietOk o r a b zs then quietPc o n pc a.toNat zs else -1

def Rv (w : World) (B : Nat) (v : Value) (row : List Int) : Prop := (v = .slice none 0 0 ∧ row = []) ∨ ∃ q c, v = .slice (some ⟨q, 0, none⟩) row.length c ∧ RowB w q row ∧ B ≤ q

section
variable {w w' : World} {B B' : Nat} {v v' : Value} {row row' : List Int}
theorem Rv.form (h : Rv w B v row) : ∃ A c, v = .slice A row.length c := by
  rcases h with ⟨rfl, rfl⟩ | ⟨q, c, rfl, _⟩
  · exact ⟨_, _, rfl⟩
  · exact ⟨_, _, rfl⟩
theorem Rv.own_lt (h : Rv w B v row) {b : Nat} (hb : v.ownBlock = some b) : B ≤ b ∧ b < w.heap.size := by
  rcases h with ⟨rfl, rfl⟩ | ⟨q, c, rfl, hr, hq⟩
  · simp [Value.ownBlock] at hb
  · have : q = b := by simpa [Value.ownBlock] using hb
    subst this
    exact ⟨hq, hr.lt⟩
theorem Rv.keep (h : Rv w B v row) (hk : ∀ k, k < w.heap.size → v.ownBlock = some k → w'.heap[k]? = w.heap[k]?) : Rv w' B v row := by
  rcases h with h | ⟨q, c, rfl, ⟨cs, h1, h2⟩, hq⟩
  · exact .inl h
  · exact .inr ⟨q, c, rfl, ⟨cs, (hk q h1.lt rfl).trans h1, h2⟩, hq⟩
theorem Rv.next (h : Rv w B v row) (hb : Below w.heap.size w w') : Rv w' B v row := h.keep (fun k hk _ => hb.block k hk)
theorem Rv.apart (h : Rv w B v row) (k : Rv w' w.heap.size v' row') : Apart v v' := fun b hu hv => by
  have := (h.own_lt hu).2
  have := (k.own_lt hv).1
  omega
theorem Rv.grown (h : Rv w B v row) (hg : w.grownBy w' v'.ownBlock) (ha : Apart v v') : Rv w' B v row := h.keep (fun k hk hv => hg.block k hk (fun e => ha k hv e.symm))
theorem Rv.ints (h : Rv w B v row) (hn : row.length ≤ 9223372036854775807) {A : Option Addr} {n c : Nat} (hv : v = .slice A n c) : IntsAt w (Old w.heap.size) A row := by
  rcases h with ⟨rfl, rfl⟩ | ⟨q, c', rfl, hr, _⟩
  · cases hv
    exact ⟨by simp, fun h => by simp at h⟩
  · cases hv
    exact (hr.ints hn).more (fun b e => by subst e; exact hr.lt)
end

def QuietR (w w' : World) (e : Ending) (row : List Int) (pc : Int) : Prop := ∃ v, e = .returned (.tuple #[.agg #[v], .int .i64 pc]) ∧ Rv w' w.heap.size v row ∧ Below w.heap.size w w'

theorem QuietNo.r {w w' : World} {e : Ending} (h : QuietNo w w' e) : QuietR w w' e [] (-1) := ⟨_, h.1, .inl ⟨rfl, rfl⟩, h.2⟩
theorem QuietYes.r {w w' : World} {e : Ending} {row : List Int} {pc : Int} (h : QuietYes w w' e row pc) : QuietR w w' e row pc := by
  obtain ⟨⟨q, c, he, hl, ho⟩, hb⟩ := h
  rw [← hl] at ho
  have := RowB.of_own ho
  exact ⟨_, he, .inr ⟨q, c, by rw [hl], this.1, this.2⟩, hb⟩

theorem quietB_cases {o : Int} (h : quietB o = true) : (1 ≤ o ∧ o ≤ 6) ∨ (o = 12 ∨ o = 13 ∨ o = 14) := by
  rw [quietB_eq] at h
  unfold spQ at h
  simp at h
  omega
theorem regB_nat {r : Int} (h : regB r = true) : ∃ k : Nat, r = (k : Int) ∧ k < 6 := by
  have := (regB_eq r).1 h
  exact ⟨r.toNat, by omega, by omega⟩

theorem quiet_all (o r a b x n pc : Int) (A : Option Addr) (zs : List Int) (c : Nat) (w : World) (hS : IntsAt w (Old w.heap.size) A zs) :
    (Calls Try.prog 44 #[.agg #[.int .i64 o, .int .i64 r, .int .i64 a, .int .i64 b, .int .i64 x, .int .i64 n], .int .i64 pc, .agg #[.slice A zs.length c]] w fun e w' => QuietR w w' e (qRow o r a b n zs) (qPc o r a b n pc zs)) ∧
    (Calls Try.prog 41 #[.agg #[.int .i64 o, .int .i64 r, .int .i64 a, .int .i64 b, .int .i64 x, .int .i64 n], .int .i64 pc, .agg #[.slice A zs.length c]] w fun e w' => QuietR w w' e (qRow o r a b n zs) (qPc o r a b n pc zs)) := by
  cases hok : quietOk o r a b zs
  · have e1 : qRow o r a b n zs = [] := by unfold qRow; rw [hok]; rfl
    have e2 : qPc o r a b n pc zs = -1 := by unfold qPc; rw [hok]; rfl
    rw [e1, e2]
    exact ⟨(quiet_no o r a b x n pc A zs c w hS hok).mono fun _ _ h => h.r, (squiet_no o r a b x n pc A zs c w hok).mono fun _ _ h => h.r⟩
  · have e1 : qRow o r a b n zs = quietRow o n r.toNat a.toNat b.toNat zs := by unfold qRow; rw [hok]; rfl
    have e2 : qPc o r a b n pc zs = quietPc o n pc a.toNat zs := by unfold qPc; rw [hok]; rfl
    rw [e1, e2]
    clear e1 e2
    unfold quietOk regsB at hok
    simp only [Bool.and_eq_true, decide_eq_true_eq] at hok
    obtain ⟨⟨hq, hz⟩, ⟨h1, h2⟩, h3⟩ := hok
    obtain ⟨r, rfl, hr⟩ := regB_nat h1
    obtain ⟨a, rfl, ha⟩ := regB_nat h2
    obtain ⟨b, rfl, hb⟩ := regB_nat h3
    rw [hz]
    simp only [Int.toNat_natCast]
    rcases quietB_cases hq with ho | ho
    · exact ⟨(quiet_yes_set o x n pc r a b A zs c w hr ha hb hz hS ho).mono fun _ _ h => h.r, (squiet_set o x n pc r a b A zs c w hr ha hb hz hS ho).mono fun _ _ h => h.r⟩
    · refine ⟨(quiet_jmp o x n pc r a b A zs c w hr ha hb hz hS ho).mono fun _ _ h => h.r, (squiet_jmp o x n pc r a b A zs c w hr ha hb hz hS ?_).mono fun _ _ h => h.r⟩
      rcases ho with h | h | h
      · exact .inl h
      · by_cases hza : geti zs a = 0
        · exact .inr (.inl ⟨h, hza⟩)
        · exact .inr (.inr (.inl ⟨h, by simpa using hza⟩))
      · exact .inr (.inr (.inr h))

theorem eqRv {w : World} {B B' : Nat} {v v' : Value} {row : List Int} (hn : row.length ≤ 9223372036854775807) (h : Rv w B v row) (k : Rv w B' v' row) :
    Calls Try.prog 45 #[.agg #[v], .agg #[v']] w fun e w' => e = .returned (.bool true) ∧ Below w.heap.size w w' := by
  obtain ⟨A, c, e1⟩ := h.form
  obtain ⟨A', c', e2⟩ := k.form
  have h1 := h.ints hn e1
  have h2 := k.ints hn e2
  subst e1 e2
  exact eqFile_any A A' row c c' _ w (fun _ h => h) h1 h2
theorem markRv {w : World} {B : Nat} {v : Value} {row : List Int} (hn : row.length ≤ 1048576) (h : Rv w B v row) :
    Calls Try.prog 46 #[.agg #[v], .int .i64 1] w fun e w' => e = .returned (.int .i64 ((1 + row.length : Nat) : Int)) ∧ Rv w' B v (marks 1 row.length) ∧ w.grownBy w' v.ownBlock := by
  rcases h with ⟨rfl, rfl⟩ | ⟨q, c, rfl, hr, hq⟩
  · refine (markFile_nil w).mono ?_
    rintro e w' ⟨rfl, hb⟩
    exact ⟨rfl, .inl ⟨rfl, rfl⟩, ⟨hb.os, hb.tape, hb.output, hb.size, fun k hk _ => hb.block k hk⟩⟩
  · refine (markFile_any q row c 1 w hn (by omega) hr).mono ?_
    rintro e w' ⟨rfl, hr', ho⟩
    exact ⟨rfl, .inr ⟨q, c, by rw [marks_len], hr', hq⟩, ⟨ho.os, ho.tape, ho.output, ho.size, fun k hk hne => ho.block k hk (fun e => hne (by rw [e]; rfl))⟩⟩
theorem heldRv {w : World} {B : Nat} {v : Value} {m : Nat} (hm : m ≤ 1048576) (h : Rv w B v (marks 1 m)) :
    Calls Try.prog 47 #[.agg #[v], .int .i64 1] w fun e w' => e = .returned (.int .i64 ((1 + m : Nat) : Int)) ∧ Below w.heap.size w w' := by
  obtain ⟨A, c, e1⟩ := h.form
  have h1 := h.ints (by rw [marks_len]; omega) e1
  subst e1
  rw [marks_len]
  exact heldFile_any A m c 1 _ w hm (by omega) (fun _ h => h) h1
end Go.Proofs.Ytfkaacfeikmabaa
