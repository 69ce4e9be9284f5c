/- Quiet, of the program and of the model, alike for every argument. -/
import Derived.Test.YtaiklooffkmjjaaQuietJ
import Derived.Test.YtaiklooffkmjjaaSQuietJ
import Derived.Test.YtaiklooffkmjjaaFile
namespace Go.Proofs.Ytaiklooffkmjjaa
open Go.RowKit

def qRow (o r a b n : Int) (zs : List Int) : List Int := if quietOk o r a b zs then quietRow o n r.toNat a.toNat b.toNat zs else []
def qPc (o r a b n pc : Int) (zs : List Int) : Int := if quietOk o r a b zs then quietPc o n pc a.toNat zs else -1

/-- A row of numbers, nil or in a block of its own from B on. -/
def Rv (w : World) (B : Nat) (v : Value) (row : List Int) : Prop := (v = .slice none 0 0 ∧ row = []) ∨ ∃ q c, v = .slice (some ⟨q, 0, none⟩) row.length c ∧ RowB w q row ∧ B ≤ q

section
variable {w w' : World} {B B' : Nat} {v v' : Value} {row row' : List Int}
theorem Rv.form (h : Rv w B v row) : ∃ A c, v = .slice A row.length c := by
  rcases h with ⟨rfl, rfl⟩ | ⟨q, c, rfl, _⟩
  · exact ⟨_, _, rfl⟩
  · exact ⟨_, _, rfl⟩
theorem Rv.own_lt (h : Rv w B v row) {b : Nat} (hb : v.ownBlock = some b) : B ≤ b ∧ b < w.heap.size := by
  rcases h with ⟨rfl, rfl⟩ | ⟨q, c, rfl, hr, hq⟩
  · simp [Value.ownBlock] at hb
  · have : q = b := by simpa [Value.ownBlock] using hb
    subst this
    exact ⟨hq, hr.lt⟩
theorem Rv.keep (h : Rv w B v row) (hk : ∀ k, k < w.heap.size → v.ownBlock = some k → w'.heap[k]? = w.heap[k]?) : Rv w' B v row := by
  rcases h with h | ⟨q, c, rfl, ⟨cs, h1, h2⟩, hq⟩
  · exact .inl h
  · exact .inr ⟨q, c, rfl, ⟨cs, (hk q h1.lt rfl).trans h1, h2⟩, hq⟩
theorem Rv.next (h : Rv w B v row) (hb : Below w.heap.size w w') : Rv w' B v row := h.keep (fun k hk _ => hb.block k hk)
theorem Rv.apart (h : Rv w B v row) (k : Rv w' w.heap.size v' row') : Apart v v' := fun b hu hv => by
  have := (h.own_lt hu).2
  have := (k.own_lt hv).1
  omega
theorem Rv.grown (h : Rv w B v row) (hg : w.grownBy w' v'.ownBlock) (ha : Apart v v') : Rv w' B v row := h.keep (fun k hk hv => hg.block k hk (fun e => ha k hv e.symm))
theorem Rv.ints (h : Rv w B v row) (hn : row.length ≤ 9223372036854775807) {A : Option Addr} {n c : Nat} (hv : v = .slice A n c) : IntsAt w (Old w.heap.size) A row := by
  rcases h with ⟨rfl, rfl⟩ | ⟨q, c', rfl, hr, _⟩
  · cases hv
    exact ⟨by simp, fun h => by simp at h⟩
  · cases hv
    exact (hr.ints hn).more (fun b e => by subst e; exact hr.lt)
end

/-- What Quiet hands back. -/
def QuietR (w w' : World) (e : Ending) (row : List Int) (pc : Int) : Prop := ∃ v, e = .returned (.tuple #[.agg #[v], .int .i64 pc]) ∧ Rv w' w.heap.size v row ∧ Below w.heap.size w w'

theorem QuietNo.r {w w' : World} {e : Ending} (h : QuietNo w w' e) : QuietR w w' e [] (-1) := ⟨_, h.1, .inl ⟨rfl, rfl⟩, h.2⟩
theorem QuietYes.r {w w' : World} {e : Ending} {row : List Int} {pc : Int} (h : QuietYes w w' e row pc) : QuietR w w' e row pc := by
  obtain ⟨⟨q, c, he, hl, ho⟩, hb⟩ := h
  rw [← hl] at ho
  have := RowB.of_own ho
  exact ⟨_, he, .inr ⟨q, c, by rw [hl], this.1, this.2⟩, hb⟩

theorem quietB_cases {o : Int} (h : quietB o = true) : (1 ≤ o ∧ o ≤ 6) ∨ (o = 12 ∨ o = 13 ∨ o = 14) := by
  rw [quietB_eq] at h
  unfold spQ at h
  simp at h
  omega
theorem regB_nat {r : Int} (h : regB r = true) : ∃ k : Nat, r = (k : Int) ∧ k < 6 := by
  have := (regB_eq r).1 h
  exact ⟨r.toNat, by omega, by omega⟩

theorem quiet_all (o r a b x n pc : Int) (A : Option Addr) (zs : List Int) (c : Nat) (w : World) (hS : IntsAt w (Old w.heap.size) A zs) :
    (Calls Try.prog 24 #[.agg #[.int .i64 o, .int .i64 r, .int .i64 a, .int .i64 b, .int .i64 x, .int .i64 n], .int .i64 pc, .agg #[.slice A zs.length c]] w fun e w' => QuietR w w' e (qRow o r a b n zs) (qPc o r a b n pc zs)) ∧
    (Calls Try.prog 21 #[.agg #[.int .i64 o, .int .i64 r, .int .i64 a, .int .i64 b, .int .i64 x, .int .i64 n], .int .i64 pc, .agg #[.slice A zs.length c]] w fun e w' => QuietR w w' e (qRow o r a b n zs) (qPc o r a b n pc zs)) := by
  cases hok : quietOk o r a b zs
  · have e1 : qRow o r a b n zs = [] := by unfold qRow; rw [hok]; rfl
    have e2 : qPc o r a b n pc zs = -1 := by unfold qPc; rw [hok]; rfl
    rw [e1, e2]
    exact ⟨(quiet_no o r a b x n pc A zs c w hS hok).mono fun _ _ h => h.r, (squiet_no o r a b x n pc A zs c w hok).mono fun _ _ h => h.r⟩
  · have e1 : qRow o r a b n zs = quietRow o n r.toNat a.toNat b.toNat zs := by unfold qRow; rw [hok]; rfl
    have e2 : qPc o r a b n pc zs = quietPc o n pc a.toNat zs := by unfold qPc; rw [hok]; rfl
    rw [e1, e2]
    clear e1 e2
    unfold quietOk regsB at hok
    simp only [Bool.and_eq_true, decide_eq_true_eq] at hok
    obtain ⟨⟨hq, hz⟩, ⟨h1, h2⟩, h3⟩ := hok
    obtain ⟨r, rfl, hr⟩ := regB_nat h1
    obtain ⟨a, rfl, ha⟩ := regB_nat h2
    obtain ⟨b, rfl, hb⟩ := regB_nat h3
    rw [hz]
    simp only [Int.toNat_natCast]
    rcases quietB_cases hq with ho | ho
    · exact ⟨(quiet_yes_set o x n pc r a b A zs c w hr ha hb hz hS ho).mono fun _ _ h => h.r, (squiet_set o x n pc r a b A zs c w hr ha hb hz hS ho).mono fun _ _ h => h.r⟩
    · refine ⟨(quiet_jmp o x n pc r a b A zs c w hr ha hb hz hS ho).mono fun _ _ h => h.r, (squiet_jmp o x n pc r a b A zs c w hr ha hb hz hS ?_).mono fun _ _ h => h.r⟩
      rcases ho with h | h | h
      · exact .inl h
      · by_cases hza : geti zs a = 0
        · exact .inr (.inl ⟨h, hza⟩)
        · exact .inr (.inr (.inl ⟨h, by simpa using hza⟩))
      · exact .inr (.inr (.inr h))

/-- The laws' helpers on such a row. -/
theorem eqRv {w : World} {B B' : Nat} {v v' : Value} {row : List Int} (hn : row.length ≤ 9223372036854775807) (h : Rv w B v row) (k : Rv w B' v' row) :
    Calls Try.prog 25 #[.agg #[v], .agg #[v']] w fun e w' => e = .returned (.bool true) ∧ Below w.heap.size w w' := by
  obtain ⟨A, c, e1⟩ := h.form
  obtain ⟨A', c', e2⟩ := k.form
  have h1 := h.ints hn e1
  have h2 := k.ints hn e2
  subst e1 e2
  exact eqFile_any A A' row c c' _ w (fun _ h => h) h1 h2
theorem markRv {w : World} {B : Nat} {v : Value} {row : List Int} (hn : row.length ≤ 1048576) (h : Rv w B v row) :
    Calls Try.prog 26 #[.agg #[v], .int .i64 1] w fun e w' => e = .returned (.int .i64 ((1 + row.length : Nat) : Int)) ∧ Rv w' B v (marks 1 row.length) ∧ w.grownBy w' v.ownBlock := by
  rcases h with ⟨rfl, rfl⟩ | ⟨q, c, rfl, hr, hq⟩
  · refine (markFile_nil w).mono ?_
    rintro e w' ⟨rfl, hb⟩
    exact ⟨rfl, .inl ⟨rfl, rfl⟩, ⟨hb.os, hb.tape, hb.output, hb.size, fun k hk _ => hb.block k hk⟩⟩
  · refine (markFile_any q row c 1 w hn (by omega) hr).mono ?_
    rintro e w' ⟨rfl, hr', ho⟩
    exact ⟨rfl, .inr ⟨q, c, by rw [marks_len], hr', hq⟩, ⟨ho.os, ho.tape, ho.output, ho.size, fun k hk hne => ho.block k hk (fun e => hne (by rw [e]; rfl))⟩⟩
theorem heldRv {w : World} {B : Nat} {v : Value} {m : Nat} (hm : m ≤ 1048576) (h : Rv w B v (marks 1 m)) :
    Calls Try.prog 27 #[.agg #[v], .int .i64 1] w fun e w' => e = .returned (.int .i64 ((1 + m : Nat) : Int)) ∧ Below w.heap.size w w' := by
  obtain ⟨A, c, e1⟩ := h.form
  have h1 := h.ints (by rw [marks_len]; omega) e1
  subst e1
  rw [marks_len]
  exact heldFile_any A m c 1 _ w hm (by omega) (fun _ h => h) h1
end Go.Proofs.Ytaiklooffkmjjaa
