/- Layer 10: lengths, stores, steps of drawn regions. -/
import Derived.Test.YtdmlgheajblcdaaGreatK24
import Derived.Test.YtdmlgheajblcdaaGreatK15
import Derived.Test.YtdmlgheajblcdaaGreatK14
import Derived.WalkKit
import Derived.ProofKit
import Derived.Handy
import Derived.WalkLawsBesides
import Derived.WalkSpells
import Derived.BigQuiet
import Derived.BigCall
import Derived.Deep.QuietTactic
import Derived.Deep.Light
import Derived.Deep.OwnRows
import Derived.Laws.AppendOwnNone
import Derived.Laws.Strings3
import Derived.Laws.RangeAny
import Derived.Deep.RegionWith
import Derived.Lib.BitFns
import Derived.Lib.Walk
import Derived.Lib.Strings
import Derived.Lib.OthersKept
import Derived.Deep.CutBlock
import Derived.Deep.DeepCutAuto
import Derived.Deep.LoopGhost
import Derived.Deep.RegionHeld3
import Derived.Lib.SmallJoins
import Derived.Maps.AppendAt
import Derived.Laws.IdiomStrings
import Derived.Lib.AppendZeros
import Derived.Deep.WholeRow
import Derived.Laws.BitsAllLaws
import Derived.Lib.ConvBytes
import Derived.Deep.RegionLaw
namespace Go.Proofs.YtdmlgheajblcdaaGreat
open Go.RowKit
set_option linter.unusedVariables false
set_option linter.unusedSimpArgs false
set_option maxRecDepth 100000
theorem ba_size (l : List UInt8) : (⟨l.toArray⟩ : ByteArray).size = l.length := rfl
theorem intL_len {n : Int} (h : I64 n) : (intL n).length ≤ 10 := (uint_len (fo_lt h)).2
theorem textL_len {s : List UInt8} (h : s.length ≤ 1000) : (textL s).length ≤ 1010 := by have := lt (l := []) h; simpa using this
theorem uintL_len {n : Nat} (h : n ≤ 1000) : (uintL n).length ≤ 10 := (uint_len (by omega)).2
theorem consR3 {P : Program} {l : List Oper} {Q : Exit → Act → World → Prop} {md : Region.Mode} {S : World → Prop} {fuel : Nat} {listed : Array Bool} {a : Act} {w : World} {i j k : Nat} {o o2 o3 : Oper} (hi : l[i]? = some o) (hj : l[j]? = some o2) (hk : l[k]? = some o3) (hr : Region.ready md l.toArray listed = [i, j, k])
    (h : ∀ K' : Act → World → Prop, Shut (∀ a w, S w → (S w → wpAnyH P md l.toArray Q S fuel (listed.setIfInBounds i true) a w) → K' a w) → if Region.wanted o (yielded l.toArray a.tmps) = true then Oper.wp P o a w K' Q else K' (a.put o.dst undef) w)
    (h2 : ∀ K' : Act → World → Prop, Shut (∀ a w, S w → (S w → wpAnyH P md l.toArray Q S fuel (listed.setIfInBounds j true) a w) → K' a w) → if Region.wanted o2 (yielded l.toArray a.tmps) = true then Oper.wp P o2 a w K' Q else K' (a.put o2.dst undef) w)
    (h3 : ∀ K' : Act → World → Prop, Shut (∀ a w, S w → (S w → wpAnyH P md l.toArray Q S fuel (listed.setIfInBounds k true) a w) → K' a w) → if Region.wanted o3 (yielded l.toArray a.tmps) = true then Oper.wp P o3 a w K' Q else K' (a.put o3.dst undef) w) :
    wpAnyH P md l.toArray Q S (fuel + 1) listed a w :=
  wpAnyH_ready hr (by simp) (AllReadyH.cons (by rw [List.getElem?_toArray]; exact hi) h (AllReadyH.cons (by rw [List.getElem?_toArray]; exact hj) h2 (AllReadyH.cons (by rw [List.getElem?_toArray]; exact hk) h3 AllReadyH.nil)))
theorem consR2 {P : Program} {l : List Oper} {Q : Exit → Act → World → Prop} {md : Region.Mode} {S : World → Prop} {fuel : Nat} {listed : Array Bool} {a : Act} {w : World} {i j : Nat} {o o2 : Oper} (hi : l[i]? = some o) (hj : l[j]? = some o2) (hr : Region.ready md l.toArray listed = [i, j])
    (h : ∀ K' : Act → World → Prop, Shut (∀ a w, S w → (S w → wpAnyH P md l.toArray Q S fuel (listed.setIfInBounds i true) a w) → K' a w) → if Region.wanted o (yielded l.toArray a.tmps) = true then Oper.wp P o a w K' Q else K' (a.put o.dst undef) w)
    (h2 : ∀ K' : Act → World → Prop, Shut (∀ a w, S w → (S w → wpAnyH P md l.toArray Q S fuel (listed.setIfInBounds j true) a w) → K' a w) → if Region.wanted o2 (yielded l.toArray a.tmps) = true then Oper.wp P o2 a w K' Q else K' (a.put o2.dst undef) w) :
    wpAnyH P md l.toArray Q S (fuel + 1) listed a w :=
  wpAnyH_ready hr (by simp) (AllReadyH.cons (by rw [List.getElem?_toArray]; exact hi) h (AllReadyH.cons (by rw [List.getElem?_toArray]; exact hj) h2 AllReadyH.nil))
theorem exl {P : Program} {w : World} (ρ : Operand → Value) (o : Oper) (t : TypeId) (x : Operand) (ho : o.op = .load t x) (p v : Value) (hx : ρ x = p) (h : (Instr.loadAt t p).run P w = .ok v w) : (execOp ρ o).run P w = .ok (.value v) w := by
  unfold execOp
  simp only [ho, hx, Sem.run_bind, Sem.run_pure, Result.andThen_ok, h]
theorem load23 (W : World) (b : Nat) (v3 v4 v5 v6 v7 : Value) (c3 : W.cell? ⟨b, 3, none⟩ = some v3) (c4 : W.cell? ⟨b, 4, none⟩ = some v4) (c5 : W.cell? ⟨b, 5, none⟩ = some v5) (c6 : W.cell? ⟨b, 6, none⟩ = some v6) (c7 : W.cell? ⟨b, 7, none⟩ = some v7) : (Instr.loadAt 23 (.pointer (some ⟨b, 3, none⟩))).run Tryz.prog W = .ok (.agg #[v3, v4, v5, v6, v7]) W := by
  go_simp
theorem load27 (W : World) (b : Nat) (v8 v9 v10 v11 v12 v13 v14 v15 v16 v17 : Value) (c8 : W.cell? ⟨b, 8, none⟩ = some v8) (c9 : W.cell? ⟨b, 9, none⟩ = some v9) (c10 : W.cell? ⟨b, 10, none⟩ = some v10) (c11 : W.cell? ⟨b, 11, none⟩ = some v11) (c12 : W.cell? ⟨b, 12, none⟩ = some v12) (c13 : W.cell? ⟨b, 13, none⟩ = some v13) (c14 : W.cell? ⟨b, 14, none⟩ = some v14) (c15 : W.cell? ⟨b, 15, none⟩ = some v15) (c16 : W.cell? ⟨b, 16, none⟩ = some v16) (c17 : W.cell? ⟨b, 17, none⟩ = some v17) : (Instr.loadAt 27 (.pointer (some ⟨b, 8, none⟩))).run Tryz.prog W = .ok (.agg #[v8, v9, v10, v11, v12, v13, v14, v15, v16, v17]) W := by
  go_simp
theorem load30 (W : World) (b : Nat) (v22 v23 v24 v25 v26 v27 v28 v29 : Value) (c22 : W.cell? ⟨b, 22, none⟩ = some v22) (c23 : W.cell? ⟨b, 23, none⟩ = some v23) (c24 : W.cell? ⟨b, 24, none⟩ = some v24) (c25 : W.cell? ⟨b, 25, none⟩ = some v25) (c26 : W.cell? ⟨b, 26, none⟩ = some v26) (c27 : W.cell? ⟨b, 27, none⟩ = some v27) (c28 : W.cell? ⟨b, 28, none⟩ = some v28) (c29 : W.cell? ⟨b, 29, none⟩ = some v29) : (Instr.loadAt 30 (.pointer (some ⟨b, 22, none⟩))).run Tryz.prog W = .ok (.agg #[v22, v23, v24, v25, v26, v27, v28, v29]) W := by
  go_simp
theorem ow_store {P : Program} {o : Oper} {a : Act} {K : Act → World → Prop} {Q : Exit → Act → World → Prop} (w w' : World) (t : TypeId) (x y : Operand) (ho : o.op = .store t x y) (vx vy : Value) (hx : a.eval x = vx) (hy : a.eval y = vy) (hr : (Instr.storeAt t vx vy).run P w = .ok () w') (h : K (a.put o.dst undef) w') : Oper.wp P o a w K Q := by
  unfold Oper.wp execOp
  simp only [ho, hx, hy, Sem.run_bind, Sem.run_pure, Result.andThen_ok, hr]
  exact h
theorem storeT {T n : Nat} (w : World) (g : Nat) (old M : Array Value) (hi : (Tryz.prog.info? T).map (·.size) = some n) (hg : Bx w g old T) (ho : old.size = n) (hs : M.size = n) (h1 : M.all (·.oneCell') = true) : (Instr.storeAt T (.pointer (some ⟨g, 0, none⟩)) (.agg M)).run Tryz.prog w = .ok () (w.setRow g M) := by
  have h := run_storeVar_row (P := Tryz.prog) w g T T old M hg (by rw [hs]; exact hi) (by rw [ho, hs]) h1
  simp only [Instr.storeAt, Instr.sureAddr, asAddr, Sem.run_bind, Sem.run_pure, Result.andThen_ok]
  exact h
theorem info23 : (Tryz.prog.info? 23).map (·.size) = some 5 := by kernel_rfl
theorem info27 : (Tryz.prog.info? 27).map (·.size) = some 10 := by kernel_rfl
theorem info30 : (Tryz.prog.info? 30).map (·.size) = some 8 := by kernel_rfl
theorem Bx.set {w : World} {b : Nat} {cs ds : Array Value} {T : Nat} (h : Bx w b cs T) : Bx (w.setRow b ds) b ds T := setRow_heap w b _ _ T (0, 0) h
theorem Bx.other {w : World} {b c : Nat} {cs ds : Array Value} {T : Nat} (h : Bx w b cs T) (hn : b ≠ c) : Bx (w.setRow c ds) b cs T := (setRow_other w c b ds hn).trans h
theorem Bx.ne {w : World} {b c : Nat} {cs ds : Array Value} {T U : Nat} (h : Bx w b cs T) (k : Bx w c ds U) (hn : T ≠ U) : b ≠ c := by
  intro e; subst e
  have h1 : w.heap[b]? = some (.cells cs T (0, 0)) := h
  rw [show w.heap[b]? = some (.cells ds U (0, 0)) from k] at h1
  injection h1 with h1; injection h1 with _ h1; exact hn h1.symm
theorem takeR {P : Program} {l : List Oper} {Q : Exit → Act → World → Prop} {md : Region.Mode} {S : World → Prop} {i : Nat} {oi : Oper} {v : Value} {fuel : Nat} {listed : Array Bool} {a : Act} {w : World} (hi : l[i]? = some oi)
    (hs : Region.noSelect l.toArray = true) (hf : Region.free md l.toArray listed i = true) (hr : (Region.ready md l.toArray listed).contains i = true)
    (hQ : ∀ c a w, Q (.panic c) (a.put oi.dst v) w → Q (.panic c) a w) (hy : YieldsIf P l.toArray S oi v a) (hS : S w)
    (h : wpAnyH P md l.toArray Q S fuel (listed.setIfInBounds i true) (a.put oi.dst v) w) : wpAnyH P md l.toArray Q S (fuel + 1) listed a w :=
  wpAnyH_take (by rw [List.getElem?_toArray]; exact hi) hs hf hr hQ hy hS h

theorem consR {P : Program} {l : List Oper} {Q : Exit → Act → World → Prop} {md : Region.Mode} {S : World → Prop} {fuel : Nat} {listed : Array Bool} {a : Act} {w : World} {i : Nat} {o : Oper} (hi : l[i]? = some o) (hr : Region.ready md l.toArray listed = [i])
    (h : ∀ K' : Act → World → Prop, Shut (∀ a w, S w → (S w → wpAnyH P md l.toArray Q S fuel (listed.setIfInBounds i true) a w) → K' a w) → if Region.wanted o (yielded l.toArray a.tmps) = true then Oper.wp P o a w K' Q else K' (a.put o.dst undef) w) :
    wpAnyH P md l.toArray Q S (fuel + 1) listed a w :=
  wpAnyH_ready hr (by simp) (AllReadyH.cons (by rw [List.getElem?_toArray]; exact hi) h AllReadyH.nil)
/-- what is right is short -/
structure Shrt (m : Mg) : Prop where
  n : m.k = 1 → m.name.length ≤ 1000
  a : m.k = 2 → m.a.i.length ≤ 1000 ∧ m.a.cur.length ≤ 1000
  b : m.k = 3 → m.b.cur.length ≤ 1000 ∧ m.b.cuts.length ≤ 64 ∧ m.b.bar.length ≤ 64
  p : m.k = 4 → m.ps.length ≤ 64 ∧ ∀ y ∈ m.ps, y.i.length ≤ 1000
  t : m.k = 6 ∨ m.k = 7 → m.t.length ≤ 1000
  l : m.k = 11 → m.out.i.length ≤ 1000 ∧ m.ins.length ≤ 64 ∧ ∀ y ∈ m.ins, y.i.length ≤ 1000
end Go.Proofs.YtdmlgheajblcdaaGreat
