/- What a beginning's rows are to StateOk and Done. -/
import Derived.Test.YtaiklooffkmjjaaStart
import Derived.Test.YtaiklooffkmjjaaStOk
namespace Go.Proofs.Ytaiklooffkmjjaa
open Go.RowKit

theorem getn_rep (n v k : Nat) (h : k < n) : getn (List.replicate n v) k = v := by simp [getn, List.getD_eq_getElem?_getD, h]
theorem LensAt.ofRows {w : World} {B c : Nat} {A : Option Addr} {fs : List Value} (h : w.ownsRow B 32 1 (.slice A fs.length c) fs.length fs) (hf : FilesNew w B fs) (hn : fs.length ≤ 9223372036854775807) : LensAt w (Old w.heap.size) A (List.replicate fs.length 6) := by
  refine ⟨by simpa using hn, fun hp => ?_⟩
  have hp : 0 < fs.length := by simpa using hp
  rcases h.2 with ⟨hv, _⟩ | ⟨q', cap, cur, hv, hb, hh, hcap, hmax, hcs, ht⟩
  · injection hv with _ h2 _
    omega
  · cases hv
    have hq : Blk w q' 32 cur := hh
    refine ⟨q', 0, rfl, hq.lt, fun k hk => ?_⟩
    have hk : k < fs.length := by simpa using hk
    rw [getn_rep _ _ _ hk]
    obtain ⟨q, e, -, -⟩ := hf fs[k] (List.getElem_mem hk)
    refine ⟨some ⟨q, 0, none⟩, 6, ?_⟩
    rw [Nat.zero_add, hq.cell k, ← e]
    have h1 : cur.toList[k]? = fs[k]? := by rw [← ht, List.getElem?_take, if_pos (by omega)]
    rw [← Array.getElem?_toList, h1, List.getElem?_eq_getElem hk]
theorem LensAt.ofZ {w : World} {q n : Nat} (h : Blk w q 134 (zrow #[.slice none 0 0] n)) (hn : n ≤ 9223372036854775807) : LensAt w (Old w.heap.size) (some ⟨q, 0, none⟩) (List.replicate n 0) := by
  refine ⟨by simpa using hn, fun _ => ⟨q, 0, rfl, h.lt, fun k hk => ⟨none, 0, ?_⟩⟩⟩
  have hk : k < n := by simpa using hk
  rw [getn_rep _ _ _ hk, Nat.zero_add, h.cell k]
  unfold zrow madeCells
  simp [hk, Nat.mod_one]
theorem geti_zeros {n k : Nat} (h : k < n) : geti (zeros n) k = 0 := by simp [zeros, geti, List.getD_eq_getElem?_getD, h]
theorem ints_old {w : World} {q : Nat} {zs : List Int} (h : RowB w q zs) (hn : zs.length ≤ 9223372036854775807) : IntsAt w (Old w.heap.size) (some ⟨q, 0, none⟩) zs := (h.ints hn).more (fun b e => by subst e; exact h.lt)
/-- A beginning is a state, and it is done only where no thread has an instruction. -/
theorem KsAt.ok {w0 w : World} {qp q qm A4c cm c1 c2 : Nat} {A1 A2 A4 : Option Addr} {fs : List Value} (p : ProgD) (h : KsAt w0 p.ts.length qp (.slice A4 fs.length A4c) fs w) (hfl : fs.length = p.ts.length) (_hm : RowB w qm p.init) (hq : Blk w q 134 (zrow #[.slice none 0 0] p.ts.length)) (hB : progB p = true) (hcc : p.init.length ≤ c1 ∧ p.ts.length ≤ c2) (hi : IntsAt w (Old w.heap.size) A1 p.init) (ht : ThreadsAt w (Old w.heap.size) A2 p.ts) (hn : p.ts.length ≤ 3) :
    Calls Try.prog 44 #[.agg #[.slice A1 p.init.length c1, .slice A2 p.ts.length c2], .agg #[.int .i64 1, .slice (some ⟨qp, 0, none⟩) p.ts.length p.ts.length, .slice A4 p.ts.length A4c, .slice (some ⟨qm, 0, none⟩) p.init.length cm, .slice (some ⟨q, 0, none⟩) p.ts.length p.ts.length, .slice none 0 0, .slice none 0 0, .slice none 0 0, .int .i64 0]] w (fun e w' => e = .returned (.bool true) ∧ Below w.heap.size w w') ∧
    Calls Try.prog 45 #[.agg #[.slice A1 p.init.length c1, .slice A2 p.ts.length c2], .agg #[.int .i64 1, .slice (some ⟨qp, 0, none⟩) p.ts.length p.ts.length, .slice A4 p.ts.length A4c, .slice (some ⟨qm, 0, none⟩) p.init.length cm, .slice (some ⟨q, 0, none⟩) p.ts.length p.ts.length, .slice none 0 0, .slice none 0 0, .slice none 0 0, .int .i64 0]] w (fun e w' => e = .returned (.bool (endedB p.ts (zeros p.ts.length))) ∧ Below w.heap.size w w') := by
  have hF := LensAt.ofRows h.rows h.files (by omega)
  rw [hfl] at hF
  have hZ := LensAt.ofZ hq (by omega)
  have hP := ints_old h.pcs.1 (by rw [zeros_len]; omega)
  have hpc : ∀ k, k < p.ts.length → 0 ≤ geti (zeros p.ts.length) k ∧ geti (zeros p.ts.length) k ≤ (gett p.ts k).length := fun k hk => by rw [geti_zeros hk]; omega
  exact ⟨stateOk_buf p A1 A2 _ A4 _ _ c1 c2 _ A4c cm _ (zeros p.ts.length) (List.replicate p.ts.length 6) (List.replicate p.ts.length 0) w hB hcc hi ht (zeros_len _) (by simp) (by simp) (fun k hk => getn_rep _ _ _ hk) hpc (fun k hk => getn_rep _ _ _ hk) hP hF hZ,
    done_buf p A1 A2 _ A4 _ _ c1 c2 _ A4c cm _ (zeros p.ts.length) (List.replicate p.ts.length 6) (List.replicate p.ts.length 0) w hB hcc hi ht (zeros_len _) (by simp) (by simp) (fun k hk => getn_rep _ _ _ hk) hpc (fun k hk => getn_rep _ _ _ hk) hP hF hZ⟩
end Go.Proofs.Ytaiklooffkmjjaa
