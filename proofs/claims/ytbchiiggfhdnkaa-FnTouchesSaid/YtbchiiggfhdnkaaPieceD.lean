/- impl.pieceOf over instructions: 24 of them at a time. -/
import Derived.Test.YtbchiiggfhdnkaaPiece
namespace Go.Proofs.Ytbchiiggfhdnkaa
open Go.RowKit

/-- An instruction's r-th cell. -/
def dcell (d : InsD) (r : Nat) : Value := .int .i64 (if r = 0 then d.o else if r = 1 then d.r else if r = 2 then d.a else if r = 3 then d.b else if r = 4 then d.x else d.n)
theorem InsIn.cell {w : World} {b o : Nat} {d : InsD} (h : InsIn w b o d) (r : Nat) (hr : r < 6) : w.cell? ⟨b, o + r, none⟩ = some (dcell d r) := by
  obtain ⟨h0, h1, h2, h3, h4, h5⟩ := h
  match r, hr with
  | 0, _ => simpa [dcell] using h0
  | 1, _ => simpa [dcell] using h1
  | 2, _ => simpa [dcell] using h2
  | 3, _ => simpa [dcell] using h3
  | 4, _ => simpa [dcell] using h4
  | 5, _ => simpa [dcell] using h5
theorem InsCells.of {cs : Array Value} {o : Nat} {d : InsD} (h : ∀ r, r < 6 → cs[o + r]? = some (dcell d r)) : InsCells cs o d :=
  ⟨by simpa [dcell] using h 0 (by omega), by simpa [dcell] using h 1 (by omega), by simpa [dcell] using h 2 (by omega), by simpa [dcell] using h 3 (by omega), by simpa [dcell] using h 4 (by omega), by simpa [dcell] using h 5 (by omega)⟩

/-- 24 instructions from a place on, zero ones behind the row's end. -/
def pieceD (l : List InsD) (f j : Nat) : InsD := if f + j < l.length then getd l (f + j) else ins0
def pieceDL (l : List InsD) (f : Nat) : List Value := (List.range (Nat.min (l.length - f) 24 * 6)).map fun q => dcell (getd l (f + q / 6)) (q % 6)
theorem pieceDL_len (l : List InsD) (f : Nat) : (pieceDL l f).length = Nat.min (l.length - f) 24 * 6 := by simp [pieceDL]
def zeros144 : Array Value := #[Value.int IntKind.i64 0, Value.int IntKind.i64 0, Value.int IntKind.i64 0, Value.int IntKind.i64 0, Value.int IntKind.i64 0, Value.int IntKind.i64 0, Value.int IntKind.i64 0, Value.int IntKind.i64 0, Value.int IntKind.i64 0, Value.int IntKind.i64 0, Value.int IntKind.i64 0, Value.int IntKind.i64 0, Value.int IntKind.i64 0, Value.int IntKind.i64 0, Value.int IntKind.i64 0, Value.int IntKind.i64 0, Value.int IntKind.i64 0, Value.int IntKind.i64 0, Value.int IntKind.i64 0, Value.int IntKind.i64 0, Value.int IntKind.i64 0, Value.int IntKind.i64 0, Value.int IntKind.i64 0, Value.int IntKind.i64 0, Value.int IntKind.i64 0, Value.int IntKind.i64 0, Value.int IntKind.i64 0, Value.int IntKind.i64 0, Value.int IntKind.i64 0, Value.int IntKind.i64 0, Value.int IntKind.i64 0, Value.int IntKind.i64 0, Value.int IntKind.i64 0, Value.int IntKind.i64 0, Value.int IntKind.i64 0, Value.int IntKind.i64 0, Value.int IntKind.i64 0, Value.int IntKind.i64 0, Value.int IntKind.i64 0, Value.int IntKind.i64 0, Value.int IntKind.i64 0, Value.int IntKind.i64 0, Value.int IntKind.i64 0, Value.int IntKind.i64 0, Value.int IntKind.i64 0, Value.int IntKind.i64 0, Value.int IntKind.i64 0, Value.int IntKind.i64 0, Value.int IntKind.i64 0, Value.int IntKind.i64 0, Value.int IntKind.i64 0, Value.int IntKind.i64 0, Value.int IntKind.i64 0, Value.int IntKind.i64 0, Value.int IntKind.i64 0, Value.int IntKind.i64 0, Value.int IntKind.i64 0, Value.int IntKind.i64 0, Value.int IntKind.i64 0, Value.int IntKind.i64 0, Value.int IntKind.i64 0, Value.int IntKind.i64 0, Value.int IntKind.i64 0, Value.int IntKind.i64 0, Value.int IntKind.i64 0, Value.int IntKind.i64 0, Value.int IntKind.i64 0, Value.int IntKind.i64 0, Value.int IntKind.i64 0, Value.int IntKind.i64 0, Value.int IntKind.i64 0, Value.int IntKind.i64 0, Value.int IntKind.i64 0, Value.int IntKind.i64 0, Value.int IntKind.i64 0, Value.int IntKind.i64 0, Value.int IntKind.i64 0, Value.int IntKind.i64 0, Value.int IntKind.i64 0, Value.int IntKind.i64 0, Value.int IntKind.i64 0, Value.int IntKind.i64 0, Value.int IntKind.i64 0, Value.int IntKind.i64 0, Value.int IntKind.i64 0, Value.int IntKind.i64 0, Value.int IntKind.i64 0, Value.int IntKind.i64 0, Value.int IntKind.i64 0, Value.int IntKind.i64 0, Value.int IntKind.i64 0, Value.int IntKind.i64 0, Value.int IntKind.i64 0, Value.int IntKind.i64 0, Value.int IntKind.i64 0, Value.int IntKind.i64 0, Value.int IntKind.i64 0, Value.int IntKind.i64 0, Value.int IntKind.i64 0, Value.int IntKind.i64 0, Value.int IntKind.i64 0, Value.int IntKind.i64 0, Value.int IntKind.i64 0, Value.int IntKind.i64 0, Value.int IntKind.i64 0, Value.int IntKind.i64 0, Value.int IntKind.i64 0, Value.int IntKind.i64 0, Value.int IntKind.i64 0, Value.int IntKind.i64 0, Value.int IntKind.i64 0, Value.int IntKind.i64 0, Value.int IntKind.i64 0, Value.int IntKind.i64 0, Value.int IntKind.i64 0, Value.int IntKind.i64 0, Value.int IntKind.i64 0, Value.int IntKind.i64 0, Value.int IntKind.i64 0, Value.int IntKind.i64 0, Value.int IntKind.i64 0, Value.int IntKind.i64 0, Value.int IntKind.i64 0, Value.int IntKind.i64 0, Value.int IntKind.i64 0, Value.int IntKind.i64 0, Value.int IntKind.i64 0, Value.int IntKind.i64 0, Value.int IntKind.i64 0, Value.int IntKind.i64 0, Value.int IntKind.i64 0, Value.int IntKind.i64 0, Value.int IntKind.i64 0, Value.int IntKind.i64 0, Value.int IntKind.i64 0, Value.int IntKind.i64 0, Value.int IntKind.i64 0, Value.int IntKind.i64 0, Value.int IntKind.i64 0, Value.int IntKind.i64 0, Value.int IntKind.i64 0, Value.int IntKind.i64 0, Value.int IntKind.i64 0, Value.int IntKind.i64 0]
set_option maxRecDepth 100000 in
theorem zeros144_size : zeros144.size = 144 := rfl
set_option maxRecDepth 100000 in
theorem zeros144_at (j : Nat) (h : j < 144) : zeros144[j]? = some (.int .i64 0) := by
  rw [show zeros144 = (List.replicate 144 (Value.int .i64 0)).toArray from rfl, List.getElem?_toArray, List.getElem?_replicate, if_pos h]
theorem min24 (l : List InsD) (f : Nat) : Nat.min (l.length - f) 24 = if l.length - f ≤ 24 then l.length - f else 24 := by unfold Nat.min; rfl
theorem pieceDL_row (l : List InsD) (f : Nat) (hf : f < l.length) (j : Nat) (hj : j < 24) : InsCells (pieceDL l f ++ zeros144.toList.drop (pieceDL l f).length).toArray (j * 6) (pieceD l f j) := by
  have hl := pieceDL_len l f
  have hm := min24 l f
  refine InsCells.of fun r hr => ?_
  simp only [List.getElem?_toArray]
  unfold pieceD
  by_cases h : f + j < l.length
  · rw [if_pos h, List.getElem?_append_left (by rw [hl, hm]; split <;> omega)]
    simp only [pieceDL, List.getElem?_map]
    rw [List.getElem?_range (by rw [hm]; split <;> omega)]
    simp only [Option.map_some]
    rw [show (j * 6 + r) / 6 = j by omega, show (j * 6 + r) % 6 = r by omega]
  · rw [if_neg h, List.getElem?_append_right (by rw [hl, hm]; split <;> omega), List.getElem?_drop]
    rw [show (pieceDL l f).length + (j * 6 + r - (pieceDL l f).length) = j * 6 + r by rw [hl, hm]; split <;> omega]
    have := zeros144_at (j * 6 + r) (by omega)
    simp only [Array.getElem?_toList, this]
    unfold dcell ins0
    simp

theorem extract6 {xs : Array Value} {i : Nat} {d : InsD} (hs : xs.size = 144) (hi : i < 24) (h : InsCells xs (i * 6) d) : xs.extract (i * 6) (i * 6 + 6) = #[.int .i64 d.o, .int .i64 d.r, .int .i64 d.a, .int .i64 d.b, .int .i64 d.x, .int .i64 d.n] := by
  obtain ⟨h0, h1, h2, h3, h4, h5⟩ := h
  apply Array.ext_getElem?
  intro r
  rw [Array.getElem?_extract]
  match r with
  | 0 => rw [if_pos (by omega)]; simpa using h0
  | 1 => rw [if_pos (by omega)]; simpa using h1
  | 2 => rw [if_pos (by omega)]; simpa using h2
  | 3 => rw [if_pos (by omega)]; simpa using h3
  | 4 => rw [if_pos (by omega)]; simpa using h4
  | 5 => rw [if_pos (by omega)]; simpa using h5
  | r + 6 => rw [if_neg (by omega)]; simp

def insEq (d e : InsD) : Bool := d.o == e.o && d.r == e.r && d.a == e.a && d.b == e.b && d.x == e.x && d.n == e.n
theorem part_int (xs : Array Value) (i : Nat) (n : Int) (w : World) (h : xs[i]? = some (.int .i64 n)) : (part 3 xs i).run Try.prog w = .ok (.int .i64 n) w := by simp [part, isAgg, run_underlying Try.underlying3, h]
theorem fieldsIns : (Try.prog.fieldsOf 24).toList.map (fun f => (f.name, f.type, f.offset)) = [("Op", 3, 0), ("R", 3, 1), ("A", 3, 2), ("B", 3, 3), ("X", 3, 4), ("N", 3, 5)] := by kernel_rfl
theorem eqFields_cons {P : Program} (d : Nat) (xs ys : Array Value) (f : Field) (fs : List Field) (x y : Int) (w : World) (hn : f.name ≠ "_") (ht : P.underlying f.type = some (.int .i64)) (h1 : xs[f.offset]? = some (.int .i64 x)) (h2 : ys[f.offset]? = some (.int .i64 y)) :
    (Op.eqFields (d + 1) xs ys (f :: fs)).run P w = if x == y then (Op.eqFields (d + 1) xs ys fs).run P w else .ok false w := by
  have p1 : (part f.type xs f.offset).run P w = .ok (.int .i64 x) w := by simp [part, isAgg, run_underlying ht, h1]
  have p2 : (part f.type ys f.offset).run P w = .ok (.int .i64 y) w := by simp [part, isAgg, run_underlying ht, h2]
  simp only [Op.eqFields, hn, ne_eq, not_false_eq_true, if_true, Sem.run_bind, p1, p2, run_equalIn_int w d f.type .i64 .i64 x y ht, Result.andThen_ok]
  cases x == y <;> simp
theorem list6 {α : Type} {l : List α} (h : l.length = 6) : ∃ a b c d e f, l = [a, b, c, d, e, f] := by
  match l, h with
  | [a, b, c, d, e, f], _ => exact ⟨a, b, c, d, e, f, rfl⟩
set_option maxRecDepth 100000 in
theorem equal_ins (k : Nat) (d e : InsD) (w : World) : (Op.equalIn (k + 2) 24 (.agg #[.int .i64 d.o, .int .i64 d.r, .int .i64 d.a, .int .i64 d.b, .int .i64 d.x, .int .i64 d.n]) (.agg #[.int .i64 e.o, .int .i64 e.r, .int .i64 e.a, .int .i64 e.b, .int .i64 e.x, .int .i64 e.n])).run Try.prog w = .ok (insEq d e) w := by
  rw [run_equalIn_struct w (k + 1) 24 _ _ Try.underlying24 (by kernel_rfl)]
  have hf := fieldsIns
  generalize (Try.prog.fieldsOf 24).toList = fs at hf
  obtain ⟨f0, f1, f2, f3, f4, f5, rfl⟩ := list6 (l := fs) (by simpa using congrArg List.length hf)
  simp only [List.map_cons, List.map_nil, List.cons.injEq, Prod.mk.injEq, and_true] at hf
  obtain ⟨⟨n0, t0, o0⟩, ⟨n1, t1, o1⟩, ⟨n2, t2, o2⟩, ⟨n3, t3, o3⟩, ⟨n4, t4, o4⟩, ⟨n5, t5, o5⟩⟩ := hf
  have u := Try.underlying3
  rw [eqFields_cons k _ _ f0 _ d.o e.o w (by rw [n0]; decide) (by rw [t0]; exact u) (by rw [o0]; rfl) (by rw [o0]; rfl)]
  rw [eqFields_cons k _ _ f1 _ d.r e.r w (by rw [n1]; decide) (by rw [t1]; exact u) (by rw [o1]; rfl) (by rw [o1]; rfl)]
  rw [eqFields_cons k _ _ f2 _ d.a e.a w (by rw [n2]; decide) (by rw [t2]; exact u) (by rw [o2]; rfl) (by rw [o2]; rfl)]
  rw [eqFields_cons k _ _ f3 _ d.b e.b w (by rw [n3]; decide) (by rw [t3]; exact u) (by rw [o3]; rfl) (by rw [o3]; rfl)]
  rw [eqFields_cons k _ _ f4 _ d.x e.x w (by rw [n4]; decide) (by rw [t4]; exact u) (by rw [o4]; rfl) (by rw [o4]; rfl)]
  rw [eqFields_cons k _ _ f5 _ d.n e.n w (by rw [n5]; decide) (by rw [t5]; exact u) (by rw [o5]; rfl) (by rw [o5]; rfl)]
  unfold insEq
  cases d.o == e.o <;> cases d.r == e.r <;> cases d.a == e.a <;> cases d.b == e.b <;> cases d.x == e.x <;> cases d.n == e.n <;> simp [Op.eqFields]

theorem eqItems_ins (xs ys : Array Value) (f g : Nat → InsD) (w : World) (hxs : xs.size = 144) (hys : ys.size = 144) : ∀ is : List Nat, (∀ i ∈ is, i < 24) → (∀ i ∈ is, InsCells xs (i * 6) (f i)) → (∀ i ∈ is, InsCells ys (i * 6) (g i)) →
    (Op.eqItems 9999 24 6 xs ys is).run Try.prog w = .ok (is.all fun i => insEq (f i) (g i)) w
  | [], _, _, _ => by simp [Op.eqItems]
  | i :: is, h24, hx, hy => by
    have ex := extract6 hxs (h24 i (by simp)) (hx i (by simp))
    have ey := extract6 hys (h24 i (by simp)) (hy i (by simp))
    have p1 : (part 24 xs (i * 6)).run Try.prog w = .ok (.agg #[.int .i64 (f i).o, .int .i64 (f i).r, .int .i64 (f i).a, .int .i64 (f i).b, .int .i64 (f i).x, .int .i64 (f i).n]) w := by simp [part, isAgg, run_underlying Try.underlying24, ex]
    have p2 : (part 24 ys (i * 6)).run Try.prog w = .ok (.agg #[.int .i64 (g i).o, .int .i64 (g i).r, .int .i64 (g i).a, .int .i64 (g i).b, .int .i64 (g i).x, .int .i64 (g i).n]) w := by simp [part, isAgg, run_underlying Try.underlying24, ey]
    have ih := eqItems_ins xs ys f g w hxs hys is (fun j hj => h24 j (by simp [hj])) (fun j hj => hx j (by simp [hj])) (fun j hj => hy j (by simp [hj]))
    simp only [Op.eqItems, Sem.run_bind, p1, p2, equal_ins 9997 (f i) (g i) w, Result.andThen_ok]
    cases h : insEq (f i) (g i)
    · simp [h]
    · simp only [Bool.not_true, Bool.false_eq_true, if_false, ih, List.all_cons, h, Bool.true_and]

theorem cellsOfD : Try.prog.cellsOf 24 = 6 := by kernel_rfl
set_option maxRecDepth 100000 in
theorem infoD : ∃ i, Try.prog.info? 24 = some i := ⟨_, rfl⟩
theorem equal24D (xs ys : Array Value) (f g : Nat → InsD) (hxs : xs.size = 144) (hys : ys.size = 144) (hx : ∀ i, i < 24 → InsCells xs (i * 6) (f i)) (hy : ∀ i, i < 24 → InsCells ys (i * 6) (g i)) (w : World) :
    (Op.equalIn 10000 160 (.agg xs) (.agg ys)).run Try.prog w = .ok (allB (fun i => insEq (f i) (g i)) 24) w := by
  obtain ⟨i, hi⟩ := infoD
  rw [run_equalIn_array w 9999 xs ys Try.underlying160 hi, cellsOfD]
  rw [eqItems_ins xs ys f g w hxs hys (List.range 24) (fun j hj => by simpa using hj) (fun j hj => hx j (by simpa using hj)) (fun j hj => hy j (by simpa using hj))]
  rfl
end Go.Proofs.Ytbchiiggfhdnkaa
