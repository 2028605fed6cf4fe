/- layer 16: what lies in memory: blocks, rows of structs; drawn regions -/
import Derived.Test.YtdfadcbchiogjaaGreatRows
import Derived.WalkKit
import Derived.ProofKit
import Derived.Handy
import Derived.WalkLawsBesides
import Derived.WalkSpells
import Derived.BigQuiet
import Derived.BigCall
import Derived.Deep.QuietTactic
import Derived.Deep.Light
import Derived.Deep.OwnRows
import Derived.Laws.AppendOwnNone
import Derived.Laws.Strings3
import Derived.Laws.RangeAny
import Derived.Deep.RegionWith
import Derived.Lib.BitFns
import Derived.Lib.Walk
import Derived.Lib.Strings
import Derived.Lib.OthersKept
import Derived.Deep.CutBlock
import Derived.Deep.DeepCutAuto
import Derived.Deep.LoopGhost
import Derived.Deep.RegionHeld3
import Derived.Lib.SmallJoins
import Derived.Maps.AppendAt
import Derived.Laws.IdiomStrings
import Derived.Lib.AppendZeros
import Derived.Deep.WholeRow
import Derived.Laws.BitsAllLaws
import Derived.Lib.ConvBytes
import Derived.Deep.RegionLaw
import Derived.Maps.OwnSet
import Derived.Maps.OwnOps
import Derived.Maps.RangeWalk
import Derived.Maps.Ext
import Derived.DeepKeys4
import Derived.Laws.StructEq
import Derived.Deep.MidRow
import Derived.Lib.Bytealg
import Derived.Lib.Overlaps
import Derived.Lib.AppendZerosOnto
import Derived.Laws.MakeOwn
namespace Go.Proofs.YtdfadcbchiogjaaGreat
open Go.RowKit
set_option linter.unusedVariables false
set_option linter.unusedSimpArgs false
set_option maxRecDepth 20000
theorem bl_eq : ∀ (x y : List UInt8), Op.bytesLess x y = decide (x < y)
  | [], [] => by simp [Op.bytesLess]
  | _ :: _, [] => by simp [Op.bytesLess]
  | [], _ :: _ => by simp [Op.bytesLess]
  | a :: x, b :: y => by
    rw [Op.bytesLess, bl_eq x y]
    simp only [List.cons_lt_cons_iff]
    by_cases h1 : a < b <;> by_cases h2 : a = b <;> by_cases h3 : x < y <;> simp [h1, h2, h3]
theorem size_toList (s : ByteArray) : s.toList.length = s.size := by rw [ByteArray.toList_eq]; rfl
theorem toL_nil (s : ByteArray) : (s.toList == []) = decide (s.size = 0) := by
  rw [← size_toList]
  cases s.toList <;> simp
/-- a block said whole -/
def Bx (w : World) (g : Nat) (cs : Array Value) (T : Nat) : Prop := w.heap[g]? = some (.cells cs T (0, 0))
theorem Bx.below {w w' : World} {g B : Nat} {cs : Array Value} {T : Nat} (h : Bx w g cs T) (hb : Below B w w') (hg : g < B) : Bx w' g cs T := (hb.block g hg).trans h
theorem Bx.kept {w w' : World} {g : Nat} {cs : Array Value} {T : Nat} {row : Option Nat} (h : Bx w g cs T) (hb : w.grownBy w' row) (hg : some g ≠ row) : Bx w' g cs T := by
  have hl : g < w.heap.size := by
    rcases Nat.lt_or_ge g w.heap.size with h1 | h1
    · exact h1
    · unfold Bx at h; rw [Array.getElem?_eq_none h1] at h; cases h
  exact (hb.block g hl hg).trans h
theorem Bx.lt {w : World} {g : Nat} {cs : Array Value} {T : Nat} (h : Bx w g cs T) : g < w.heap.size := by
  rcases Nat.lt_or_ge g w.heap.size with h1 | h1
  · exact h1
  · unfold Bx at h; rw [Array.getElem?_eq_none h1] at h; cases h
theorem Bx.cell {w : World} {g : Nat} {cs : Array Value} {T : Nat} (h : Bx w g cs T) (k : Nat) : w.cell? ⟨g, k, none⟩ = cs[k]? := by
  unfold Bx at h
  simp [World.cell?, h]
theorem Bx.froz {w : World} {g : Nat} {cs : Array Value} {T : Nat} (h : Bx w g cs T) (k : Nat) : w.frozen? ⟨g, k, none⟩ = false := by
  unfold Bx at h
  simp [World.frozen?, h]
theorem Bx.new (w : World) (cs : Array Value) (T : Nat) : Bx (w.alloc (.cells cs T)) w.heap.size cs T := heap_alloc_new w _
theorem Bx.setc {w : World} {g : Nat} {cs : Array Value} {T : Nat} (h : Bx w g cs T) (k : Nat) (u : Value) : Bx (w.setCell ⟨g, k, none⟩ u) g (cs.setIfInBounds k u) T := by
  unfold Bx at h ⊢
  rw [setCell_eq_setRow w g k cs T (0, 0) u h]
  exact setRow_heap w g cs _ T (0, 0) h
theorem Bx.oset {w : World} {g c : Nat} {cs : Array Value} {T : Nat} (h : Bx w g cs T) (hn : g ≠ c) (k : Nat) (u : Value) : Bx (w.setCell ⟨c, k, none⟩ u) g cs T := (Below.heap_setCell w _ u g hn).trans h
theorem res_cell {P : Program} (fn : Func) (tmps : Array Value) (a t : Nat) (ad : Addr) (v : Value) (w : World) (hf : fn.results = #[.cell a t]) (ht : tmps.getD a undef = .pointer (some ad)) (hl : (loadVar t ad).run P w = .ok v w) : (results fn tmps).run P w = .ok v w := by
  have ht2 : tmps[a]?.getD undef = .pointer (some ad) := by simpa using ht
  simp [results, hf, ht2, asAddr, hl]
theorem grown_trans {a b c : World} {r : Option Nat} (h : a.grownBy b r) (k : b.grownBy c r) : a.grownBy c r :=
  ⟨k.os.trans h.os, k.tape.trans h.tape, k.output.trans h.output, Nat.le_trans h.size k.size, fun i hi hr => (k.block i (Nat.lt_of_lt_of_le hi h.size) hr).trans (h.block i hi hr)⟩
theorem grown_drew (w : World) (r : Option Nat) : w.grownBy w.drew r := ⟨rfl, rfl, rfl, Nat.le_refl _, fun _ _ _ => rfl⟩
theorem grown_alloc (w : World) (o : Obj) (r : Option Nat) : w.grownBy (w.alloc o) r := ⟨(World.grownBy_alloc w o none).os, (World.grownBy_alloc w o none).tape, (World.grownBy_alloc w o none).output, (World.grownBy_alloc w o none).size, fun k hk _ => (World.grownBy_alloc w o none).block k hk (by simp)⟩
theorem grown_set (w : World) (g k : Nat) (u : Value) : w.grownBy (w.setCell ⟨g, k, none⟩ u) (some g) := by
  have h := (Below.refl g w).setCell (p := ⟨g, k, none⟩) (Nat.le_refl _) u
  exact ⟨h.os, h.tape, h.output, h.size, fun i hi hr => Below.heap_setCell w _ u i (fun e => hr (by rw [e]))⟩
theorem own_grown {w w' : World} {B e k n : Nat} {v : Value} {cs : List Value} {r : Nat} (ho : w.ownsRow B e k v n cs) (hg : w.grownBy w' (some r)) (hr : some r ≠ v.ownBlock) : w'.ownsRow B e k v n cs := by
  refine ⟨ho.1, ?_⟩
  rcases ho.2 with h2 | ⟨g, cap, cur, rfl, hB, hgc, hq⟩
  · exact .inl h2
  · refine .inr ⟨g, cap, cur, rfl, hB, (hg.block g (Array.getElem?_eq_some_iff.1 hgc).1 (fun e => hr (by rw [← e]; simp [Value.ownBlock]))).trans hgc, hq⟩
set_option maxRecDepth 20000
theorem takeR {P : Program} {l : List Oper} {Q : Exit → Act → World → Prop} {md : Region.Mode} {S : World → Prop} {i : Nat} {oi : Oper} {v : Value} {fuel : Nat} {listed : Array Bool} {a : Act} {w : World} (hi : l[i]? = some oi)
    (hs : Region.noSelect l.toArray = true) (hf : Region.free md l.toArray listed i = true) (hr : (Region.ready md l.toArray listed).contains i = true)
    (hQ : ∀ c a w, Q (.panic c) (a.put oi.dst v) w → Q (.panic c) a w) (hy : YieldsIf P l.toArray S oi v a) (hS : S w)
    (h : wpAnyH P md l.toArray Q S fuel (listed.setIfInBounds i true) (a.put oi.dst v) w) : wpAnyH P md l.toArray Q S (fuel + 1) listed a w :=
  wpAnyH_take (by rw [List.getElem?_toArray]; exact hi) hs hf hr hQ hy hS h
theorem consR {P : Program} {l : List Oper} {Q : Exit → Act → World → Prop} {md : Region.Mode} {S : World → Prop} {fuel : Nat} {listed : Array Bool} {a : Act} {w : World} {i : Nat} {o : Oper} (hi : l[i]? = some o) (hr : Region.ready md l.toArray listed = [i])
    (h : ∀ K' : Act → World → Prop, Shut (∀ a w, S w → (S w → wpAnyH P md l.toArray Q S fuel (listed.setIfInBounds i true) a w) → K' a w) → if Region.wanted o (yielded l.toArray a.tmps) = true then Oper.wp P o a w K' Q else K' (a.put o.dst undef) w) :
    wpAnyH P md l.toArray Q S (fuel + 1) listed a w :=
  wpAnyH_ready hr (by simp) (AllReadyH.cons (by rw [List.getElem?_toArray]; exact hi) h AllReadyH.nil)
theorem exl {P : Program} {w : World} (ρ : Operand → Value) (o : Oper) (t : TypeId) (x : Operand) (ho : o.op = .load t x) (p v : Value) (hx : ρ x = p) (h : (Instr.loadAt t p).run P w = .ok v w) : (execOp ρ o).run P w = .ok (.value v) w := by
  unfold execOp
  simp only [ho, hx, Sem.run_bind, Sem.run_pure, Result.andThen_ok, h]
theorem flat_at {α : Type} (f : α → List Value) (k : Nat) (hk : ∀ x, (f x).length = k) : ∀ (xs : List α) (i : Nat) (h : i < xs.length) (j : Nat), j < k → ((xs.map f).flatten)[i * k + j]? = (f xs[i])[j]?
  | x :: r, 0, _, j, hj => by
    simp only [List.map_cons, List.flatten_cons, Nat.zero_mul, Nat.zero_add, List.getElem_cons_zero]
    rw [List.getElem?_append_left (by rw [hk]; exact hj)]
  | x :: r, i + 1, h, j, hj => by
    simp only [List.map_cons, List.flatten_cons, List.getElem_cons_succ]
    rw [List.getElem?_append_right (by rw [hk, Nat.add_mul]; omega), hk, show (i + 1) * k + j - k = i * k + j by rw [Nat.add_mul]; omega]
    exact flat_at f k hk r i (by simpa using h) j hj
theorem flat_snoc {α : Type} (f : α → List Value) (xs : List α) (x : α) : ((xs ++ [x]).map f).flatten = (xs.map f).flatten ++ f x := by simp
theorem cell_new {w : World} {cs : List Value} {T : Nat} : ∀ j u, cs[j]? = some u → (w.alloc (.cells cs.toArray T)).cell? ((⟨w.heap.size, 0, none⟩ : Addr).add j) = some u := fun j u h => by
  have e : (⟨w.heap.size, 0, none⟩ : Addr).add j = ⟨w.heap.size, j, none⟩ := by simp [Addr.add]; intro h; exact h.symm
  rw [e, (Bx.new w cs.toArray T).cell j, List.getElem?_toArray, h]
/-- append of one struct to an own row -/
theorem app_gen {T Sl k bytes : Nat} {z : Value} (hu : Tryz.prog.underlying Sl = some (.slice T)) (hi : (Tryz.prog.info? T).map (fun i => (i.zero, i.size, i.bytes)) = some (some z, k, bytes)) (hz : z.cells.size = k) (hk : 0 < k) (f : List Value) (hf : f.length = k) (h1 : ∀ u ∈ f, u.oneCell' = true) {B n : Nat} {w : World} {v : Value} {cs : List Value} (h : w.ownsRow B T k v n cs) (hB : B ≤ w.heap.size) (hb : (n + 1) * bytes ≤ 140737488355328) (hn : n + 1 ≤ maxLen) :
    ∃ v' w', (Builtin.append_ #[Sl, Sl] Sl #[v, .slice (some ⟨w.heap.size, 0, none⟩) 1 1]).run Tryz.prog (w.alloc (.cells f.toArray T)) = .ok v' w' ∧ w'.ownsRow B T k v' (n + 1) (cs ++ f) ∧ (w.alloc (.cells f.toArray T)).grownBy w' v.ownBlock := by
  obtain ⟨i0, hi, hz0, hz1, hz2⟩ := info_parts hi
  obtain ⟨v', w', hr, ho, hgr, _, hat⟩ := run_append_own_at (P := Tryz.prog) (w := w.alloc (.cells f.toArray T)) B Sl Sl T i0 _ k bytes hu hi hz0 hz1 hz2 hz hk v _ _ (h.alloc _) ⟨w.heap.size, 0, none⟩ 1 1 f (by rw [hf, Nat.one_mul]) (cell_new (cs := f)) h1 hn hb (by simp; omega)
  exact ⟨v', w', hr, ho, hgr⟩
/-- an own row, as it is read -/
theorem own_read {B e k n : Nat} {w : World} {v : Value} {cs : List Value} (h : w.ownsRow B e k v n cs) (hl : cs.length = n * k) : ∃ a c, v = .slice a n c ∧ n ≤ c ∧ (0 < n → ∃ g, a = some ⟨g, 0, none⟩ ∧ B ≤ g ∧ g < w.heap.size ∧ ∀ i u, cs[i]? = some u → w.cell? ⟨g, i, none⟩ = some u) := by
  rcases h.2 with ⟨hv, hn⟩ | ⟨g, cap, cur, hv, hB, hg, h4, _, _, ht⟩
  · exact ⟨none, 0, by rw [hv, hn], by omega, fun h0 => by omega⟩
  · refine ⟨_, cap, hv, h4, fun h0 => ⟨g, rfl, hB, (Array.getElem?_eq_some_iff.1 hg).1, fun i u hi => ?_⟩⟩
    rw [← ht] at hi
    rw [cell_of_row w g i _ e (0, 0) hg, ← Array.getElem?_toList]
    rw [List.getElem?_take] at hi
    split at hi
    · exact hi
    · cases hi
theorem own_below {w w' : World} {B e size n : Nat} {v : Value} {xs : List Value} (h : w.ownsRow B e size v n xs) (hb : Below w.heap.size w w') : w'.ownsRow B e size v n xs := by
  refine ⟨h.1, ?_⟩
  rcases h.2 with h2 | ⟨g, cap, cur, hv, hB, hg, hr⟩
  · exact .inl h2
  · exact .inr ⟨g, cap, cur, hv, hB, (hb.block g (Array.getElem?_eq_some_iff.1 hg).1).trans hg, hr⟩
theorem own_mono {w : World} {B C e size n : Nat} {v : Value} {xs : List Value} (h : w.ownsRow B e size v n xs) (hB : C ≤ B) : w.ownsRow C e size v n xs := by
  refine ⟨h.1, ?_⟩
  rcases h.2 with h2 | ⟨g, cap, cur, hv, hg, hr⟩
  · exact .inl h2
  · exact .inr ⟨g, cap, cur, hv, Nat.le_trans hB hg, hr⟩
set_option maxRecDepth 20000
/-- a row of structs of k cells each, as it is read -/
def Rw {α : Type} (k : Nat) (f : α → List Value) (w : World) (a : Option Addr) (xs : List α) : Prop := 0 < xs.length → ∃ blk off, a = some ⟨blk, off, none⟩ ∧ blk < w.heap.size ∧ ∀ i (h : i < xs.length), ∀ j, j < k → w.cell? ⟨blk, off + i * k + j, none⟩ = (f xs[i])[j]?
theorem Rw.below {α : Type} {k : Nat} {f : α → List Value} {w w' : World} {a : Option Addr} {xs : List α} (h : Rw k f w a xs) (hb : Below w.heap.size w w') : Rw k f w' a xs := by
  intro h0
  obtain ⟨blk, off, h1, h2, h3⟩ := h h0
  exact ⟨blk, off, h1, Nat.lt_of_lt_of_le h2 hb.size, fun i hi j hj => (hb.cell (p := ⟨blk, off + i * k + j, none⟩) h2).trans (h3 i hi j hj)⟩
theorem Rw.nil {α : Type} {k : Nat} {f : α → List Value} {w : World} {a : Option Addr} : Rw k f w a [] := fun h => absurd h (Nat.lt_irrefl 0)
def rcs {α : Type} (f : α → List Value) (xs : List α) : List Value := (xs.map f).flatten
theorem rcs_snoc {α : Type} (f : α → List Value) (xs : List α) (x : α) : rcs f (xs ++ [x]) = rcs f xs ++ f x := flat_snoc f xs x
theorem rcs_take {α : Type} (f : α → List Value) (xs : List α) {k : Nat} (h : k < xs.length) : rcs f (xs.take k) ++ f xs[k] = rcs f (xs.take (k + 1)) := by
  rw [← rcs_snoc, List.take_append_getElem h]
theorem own_rw {α : Type} {k : Nat} {f : α → List Value} (hf : ∀ x, (f x).length = k) {w : World} {B e n : Nat} {v : Value} {xs : List α} (h : w.ownsRow B e k v n (rcs f xs)) (hn : n = xs.length) : ∃ a cap, v = .slice a xs.length cap ∧ xs.length ≤ cap ∧ Rw k f w a xs := by
  subst hn
  obtain ⟨a, cap, hv, hc, hr⟩ := own_read h h.1
  refine ⟨a, cap, hv, hc, fun h0 => ?_⟩
  obtain ⟨g, hg, _, hgl, hcell⟩ := hr h0
  refine ⟨g, 0, hg, hgl, fun i hi j hj => ?_⟩
  have h1 := flat_at f k hf xs i hi j hj
  have h3 : j < (f xs[i]).length := by rw [hf]; exact hj
  rw [List.getElem?_eq_getElem h3] at h1 ⊢
  rw [Nat.zero_add]
  exact hcell _ _ h1
set_option maxRecDepth 20000
theorem consR2 {P : Program} {l : List Oper} {Q : Exit → Act → World → Prop} {md : Region.Mode} {S : World → Prop} {fuel : Nat} {listed : Array Bool} {a : Act} {w : World} {i j : Nat} {o o2 : Oper} (hi : l[i]? = some o) (hj : l[j]? = some o2) (hr : Region.ready md l.toArray listed = [i, j])
    (h : ∀ K' : Act → World → Prop, Shut (∀ a w, S w → (S w → wpAnyH P md l.toArray Q S fuel (listed.setIfInBounds i true) a w) → K' a w) → if Region.wanted o (yielded l.toArray a.tmps) = true then Oper.wp P o a w K' Q else K' (a.put o.dst undef) w)
    (h2 : ∀ K' : Act → World → Prop, Shut (∀ a w, S w → (S w → wpAnyH P md l.toArray Q S fuel (listed.setIfInBounds j true) a w) → K' a w) → if Region.wanted o2 (yielded l.toArray a.tmps) = true then Oper.wp P o2 a w K' Q else K' (a.put o2.dst undef) w) :
    wpAnyH P md l.toArray Q S (fuel + 1) listed a w :=
  wpAnyH_ready hr (by simp) (AllReadyH.cons (by rw [List.getElem?_toArray]; exact hi) h (AllReadyH.cons (by rw [List.getElem?_toArray]; exact hj) h2 AllReadyH.nil))
/-- all but a block and a row are kept -/
structure Kp (w w' : World) (q : Nat) (v : Value) : Prop where
  os : w'.os = w.os
  tape : w'.tape = w.tape
  output : w'.output = w.output
  size : w.heap.size ≤ w'.heap.size
  block : ∀ k, k < w.heap.size → k ≠ q → some k ≠ v.ownBlock → w'.heap[k]? = w.heap[k]?
theorem Kp.of_below {w w' : World} (h : Below w.heap.size w w') (q : Nat) (v : Value) : Kp w w' q v := ⟨h.os, h.tape, h.output, h.size, fun k hk _ _ => h.block k hk⟩
theorem Kp.trans {a b c : World} {q : Nat} {v v' : Value} (h : Kp a b q v) (k : Kp b c q v') (hv : v'.ownBlock = v.ownBlock ∨ ∃ g, v'.ownBlock = some g ∧ a.heap.size ≤ g) : Kp a c q v :=
  ⟨k.os.trans h.os, k.tape.trans h.tape, k.output.trans h.output, Nat.le_trans h.size k.size, fun i hi h1 h2 => (k.block i (Nat.lt_of_lt_of_le hi h.size) h1 (fun e => by
    rcases hv with e2 | ⟨g, e2, hg⟩
    · rw [e2] at e; exact h2 e
    · rw [e2] at e; injection e with e; omega)).trans (h.block i hi h1 h2)⟩
theorem Kp.below {B : Nat} {w w' : World} {q : Nat} {v : Value} (h : Kp w w' q v) (hB : B ≤ w.heap.size) (hq : B ≤ q) (hv : ∀ k, v.ownBlock = some k → B ≤ k) : Below B w w' :=
  ⟨h.os, h.tape, h.output, h.size, fun k hk => h.block k (by omega) (by omega) (fun e => by have := hv k e.symm; omega)⟩
theorem Kp.grown {w w1 w2 : World} {q : Nat} {v : Value} (h : Kp w w1 q v) {r : Option Nat} (g : w1.grownBy w2 r) (hr : ∀ k, r = some k → k = q ∨ some k = v.ownBlock ∨ w.heap.size ≤ k) : Kp w w2 q v :=
  ⟨g.os.trans h.os, g.tape.trans h.tape, g.output.trans h.output, Nat.le_trans h.size g.size, fun i hi h1 h2 => (g.block i (Nat.lt_of_lt_of_le hi h.size) (fun e => by
    rcases hr i e.symm with e2 | e2 | e2
    · exact h1 e2
    · exact h2 e2
    · omega)).trans (h.block i hi h1 h2)⟩
theorem own_kp {w w' : World} {B e k n : Nat} {v u : Value} {cs : List Value} {q : Nat} (h : w.ownsRow B e k v n cs) (hk : Kp w w' q u) (h1 : v.ownBlock ≠ some q) (h2 : ∀ g, v.ownBlock = some g → some g ≠ u.ownBlock) : w'.ownsRow B e k v n cs := by
  refine ⟨h.1, ?_⟩
  rcases h.2 with h3 | ⟨g, cap, cur, rfl, hB, hg, hr⟩
  · exact .inl h3
  · exact .inr ⟨g, cap, cur, rfl, hB, (hk.block g (Array.getElem?_eq_some_iff.1 hg).1 (fun e => h1 (by rw [← e]; rfl)) (h2 g rfl)).trans hg, hr⟩
theorem step_call {P : Program} (w : World) {ops : Array Oper} {o : Oper} {a : Act} {K : Act → World → Prop} {Q : Exit → Act → World → Prop} {E : Prop} (hgd : o.guard = none) (f : FuncId) (args : Array Value)
    (hrun : (execOp a.eval o).run P w = .ok (.enter f args) w) (R : Value → World → Prop) (hc : Calls P f args w fun e w' => ∃ v, e = .returned v ∧ R v w') (h : ∀ v w', R v w' → K (a.put o.dst v) w') :
    if Region.wanted o (yielded ops a.tmps) = true then Oper.wp P o a w K Q else E := by
  have hw : Region.wanted o (yielded ops a.tmps) = true := by simp [Region.wanted, hgd]
  rw [if_pos hw]
  unfold Oper.wp
  rw [hrun, Oper.upon_enter]
  refine hc.mono fun e w' hh => ?_
  obtain ⟨v, rfl, hr⟩ := hh
  exact h v w' hr
theorem calls_val {P : Program} {f : Nat} {xs : Array Value} {w : World} {v : Value} {Q : World → Prop} (h : Calls P f xs w fun e w' => e = .returned v ∧ Q w') : Calls P f xs w fun e w' => ∃ u, e = .returned u ∧ (u = v ∧ Q w') := h.mono fun e w' h => ⟨v, h.1, rfl, h.2⟩
theorem grown_undrew {a b : World} {r : Option Nat} (h : a.drew.grownBy b r) : a.grownBy b r := grown_trans (grown_drew a r) h
theorem below_drew1 (a : World) : Below a.heap.size a a.drew := (Below.refl _ a).drew
theorem below_undrew {a b : World} (h : Below a.drew.heap.size a.drew b) : Below a.heap.size a b := (below_drew1 a).trans h
/-- a security -/
structure As where
  i : ByteArray
  iss : Int
  rat : Int
  mat : Int
  c : ByteArray
def acs (a : As) : List Value := [.string a.i, .int .i64 a.iss, .int .i64 a.rat, .int .i64 a.mat, .string a.c]
theorem acs_len (a : As) : (acs a).length = 5 := rfl
end Go.Proofs.YtdfadcbchiogjaaGreat
