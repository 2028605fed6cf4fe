/- layer 14: a book of baskets in memory: rows of structs with lists of their own, a map to them -/
import Derived.Test.YtmjaijpikbdfkaaM
import Derived.WalkKit
import Derived.ProofKit
import Derived.Handy
import Derived.WalkLawsBesides
import Derived.WalkSpells
import Derived.BigQuiet
import Derived.BigCall
import Derived.Deep.QuietTactic
import Derived.Deep.Light
import Derived.Deep.OwnRows
import Derived.Laws.AppendOwnNone
import Derived.Laws.Strings3
import Derived.Laws.RangeAny
import Derived.Deep.RegionWith
import Derived.Lib.BitFns
import Derived.Lib.Walk
import Derived.Lib.Strings
import Derived.Lib.OthersKept
import Derived.Deep.CutBlock
import Derived.Deep.DeepCutAuto
import Derived.Deep.LoopGhost
import Derived.Deep.RegionHeld3
import Derived.Lib.SmallJoins
import Derived.Maps.AppendAt
import Derived.Laws.IdiomStrings
import Derived.Lib.AppendZeros
import Derived.Deep.WholeRow
import Derived.Laws.BitsAllLaws
import Derived.Lib.ConvBytes
import Derived.Deep.RegionLaw
import Derived.Maps.OwnSet
import Derived.Maps.OwnOps
import Derived.Maps.RangeWalk
import Derived.Maps.Ext
import Derived.DeepKeys4
import Derived.Laws.StructEq
import Derived.Deep.MidRow
import Derived.Lib.Bytealg
import Derived.Lib.Overlaps
import Derived.Lib.AppendZerosOnto
import Derived.Laws.MakeOwn
import Derived.Deep.Upon
namespace Go.Proofs.Ytmjaijpikbdfkaa
open Go.RowKit
set_option linter.unusedVariables false
set_option linter.unusedSimpArgs false
set_option maxRecDepth 20000
structure Bm where
  b : Bk
  ca : Option Addr
  cc : Nat
  ba : Option Addr
  bc : Nat
def bcs (x : Bm) : List Value := [.int .i64 x.b.id, .int .i64 x.b.ver, .string ⟨x.b.cur.toArray⟩, .int .i64 x.b.rat, .int .i64 x.b.least, .int .i64 x.b.most, .slice x.ca x.b.cuts.length x.cc, .int .i64 x.b.iss, .int .i64 x.b.ass, .slice x.ba x.b.bar.length x.bc]
def ccs (c : Ct) : List Value := [.int .i64 c.d, .int .i64 c.r, .int .i64 c.c]
def ics (n : Int) : List Value := [.int .i64 n]
theorem bcs_len (x : Bm) : (bcs x).length = 10 := rfl
theorem ccs_len (x : Ct) : (ccs x).length = 3 := rfl
theorem ics_len (x : Int) : (ics x).length = 1 := rfl
theorem bcs_one (x : Bm) : ∀ u ∈ bcs x, u.oneCell' = true := by
  intro u hu
  simp only [bcs, List.mem_cons, List.not_mem_nil, or_false] at hu
  rcases hu with rfl | rfl | rfl | rfl | rfl | rfl | rfl | rfl | rfl | rfl <;> rfl
theorem rcs_one {α : Type} {f : α → List Value} (h : ∀ x, ∀ u ∈ f x, u.oneCell' = true) (xs : List α) : ∀ u ∈ rcs f xs, u.oneCell' = true := by
  intro u hu
  unfold rcs at hu
  obtain ⟨l, hl, hu⟩ := List.mem_flatten.1 hu
  obtain ⟨x, _, rfl⟩ := List.mem_map.1 hl
  exact h x u hu
theorem ccs_one (x : Ct) : ∀ u ∈ ccs x, u.oneCell' = true := by
  intro u hu
  simp only [ccs, List.mem_cons, List.not_mem_nil, or_false] at hu
  rcases hu with rfl | rfl | rfl <;> rfl
theorem ics_one (x : Int) : ∀ u ∈ ics x, u.oneCell' = true := by
  intro u hu
  simp only [ics, List.mem_cons, List.not_mem_nil, or_false] at hu
  rcases hu with rfl; rfl
theorem rcs_len {α : Type} (f : α → List Value) (k : Nat) (hk : ∀ x, (f x).length = k) : ∀ xs : List α, (rcs f xs).length = xs.length * k
  | [] => by simp [rcs]
  | x :: r => by
    have := rcs_len f k hk r
    show (f x ++ rcs f r).length = _
    rw [List.length_append, hk, this, List.length_cons, Nat.add_mul]
    omega
/-- a basket's lists lie there, below B -/
def Ha (B : Nat) (w : World) (x : Bm) : Prop := Cts B w x.ca x.b.cuts ∧ Ins B w x.ba x.b.bar
theorem Ha.keep {B : Nat} {w w' : World} {x : Bm} (h : Ha B w x) (hb : Below B w w') : Ha B w' x := ⟨h.1.keep hb, h.2.keep hb⟩
theorem Ha.mono {B C : Nat} {w : World} {x : Bm} (h : Ha B w x) (hb : B ≤ C) : Ha C w x := ⟨h.1.mono hb, h.2.mono hb⟩
theorem Ha.on {B : Nat} {w w' : World} {x : Bm} (h : Ha B w x) (hb : Below B w w') (hB : B ≤ w.heap.size) : Ha w'.heap.size w' x := (h.keep hb).mono (Nat.le_trans hB hb.size)
theorem Rw.cts {w : World} {a : Option Addr} {xs : List Ct} (h : Rw 3 ccs w a xs) : Cts w.heap.size w a xs := fun h0 => by
  obtain ⟨b, off, e, hl, hc⟩ := h h0
  exact ⟨b, off, e, hl, fun j hj => ⟨hc j hj 0 (by omega), hc j hj 1 (by omega), hc j hj 2 (by omega)⟩⟩
theorem Rw.ins {w : World} {a : Option Addr} {xs : List Int} (h : Rw 1 ics w a xs) : Ins w.heap.size w a xs := fun h0 => by
  obtain ⟨b, off, e, hl, hc⟩ := h h0
  refine ⟨b, off, e, hl, fun j hj => ?_⟩
  have := hc j hj 0 (by omega)
  rw [Nat.mul_one, Nat.add_zero] at this
  exact this
theorem Cts.rw {w : World} {a : Option Addr} {xs : List Ct} (h : Cts w.heap.size w a xs) : Rw 3 ccs w a xs := fun h0 => by
  obtain ⟨b, off, e, hl, hc⟩ := h h0
  refine ⟨b, off, e, hl, fun i hi j hj => ?_⟩
  obtain ⟨h1, h2, h3⟩ := hc i hi
  rcases (by omega : j = 0 ∨ j = 1 ∨ j = 2) with rfl | rfl | rfl
  · exact h1
  · exact h2
  · exact h3
theorem Ins.rw {w : World} {a : Option Addr} {xs : List Int} (h : Ins w.heap.size w a xs) : Rw 1 ics w a xs := fun h0 => by
  obtain ⟨b, off, e, hl, hc⟩ := h h0
  refine ⟨b, off, e, hl, fun i hi j hj => ?_⟩
  rw [show j = 0 by omega, Nat.mul_one, Nat.add_zero]
  exact hc i hi
/-- an own row at a place of F -/
def Ow (F : Nat → Prop) (w : World) (e k : Nat) (v : Value) (n : Nat) (cs : List Value) : Prop := w.ownsRow 0 e k v n cs ∧ ∀ g, v.ownBlock = some g → F g
/-- a basket's lists are its own, at places of F -/
def Hx (F : Nat → Prop) (w : World) (x : Bm) : Prop := Ow F w 53 3 (.slice x.ca x.b.cuts.length x.cc) x.b.cuts.length (rcs ccs x.b.cuts) ∧ Ow F w 3 1 (.slice x.ba x.b.bar.length x.bc) x.b.bar.length (rcs ics x.b.bar)
theorem Hx.ha {F : Nat → Prop} {w : World} {x : Bm} (h : Hx F w x) : Ha w.heap.size w x := by
  obtain ⟨a, cap, e, _, h1⟩ := own_rw ccs_len h.1.1 rfl
  obtain ⟨a2, cap2, e2, _, h2⟩ := own_rw ics_len h.2.1 rfl
  injection e with e _ _
  injection e2 with e2 _ _
  subst e e2
  exact ⟨h1.cts, h2.ins⟩
/-- places of F are as they were -/
def Ag (F : Nat → Prop) (w w' : World) : Prop := w.heap.size ≤ w'.heap.size ∧ ∀ k, F k → k < w.heap.size → w'.heap[k]? = w.heap[k]?
/-- all but places of F are kept -/
structure Kf (F : Nat → Prop) (w w' : World) : Prop where
  os : w'.os = w.os
  tape : w'.tape = w.tape
  output : w'.output = w.output
  size : w.heap.size ≤ w'.heap.size
  block : ∀ k, k < w.heap.size → ¬ F k → w'.heap[k]? = w.heap[k]?
theorem Kf.of_below {F : Nat → Prop} {w w' : World} (h : Below w.heap.size w w') : Kf F w w' := ⟨h.os, h.tape, h.output, h.size, fun k hk _ => h.block k hk⟩
theorem Kf.below {F : Nat → Prop} {w w' : World} {B : Nat} (h : Kf F w w') (hF : ∀ k, F k → B ≤ k) (hB : B ≤ w.heap.size) : Below B w w' := ⟨h.os, h.tape, h.output, h.size, fun k hk => h.block k (by omega) (fun e => by have := hF k e; omega)⟩
theorem Kf.trans {F G : Nat → Prop} {a b c : World} (h : Kf F a b) (k : Kf G b c) (hG : ∀ k, G k → F k ∨ a.heap.size ≤ k) : Kf F a c :=
  ⟨k.os.trans h.os, k.tape.trans h.tape, k.output.trans h.output, Nat.le_trans h.size k.size, fun i hi hn => (k.block i (Nat.lt_of_lt_of_le hi h.size) (fun e => by
    rcases hG i e with e | e
    · exact hn e
    · omega)).trans (h.block i hi hn)⟩
theorem Kf.grown {F : Nat → Prop} {a b c : World} {r : Option Nat} (h : Kf F a b) (g : b.grownBy c r) (hr : ∀ k, r = some k → F k ∨ a.heap.size ≤ k) : Kf F a c :=
  ⟨g.os.trans h.os, g.tape.trans h.tape, g.output.trans h.output, Nat.le_trans h.size g.size, fun i hi hn => (g.block i (Nat.lt_of_lt_of_le hi h.size) (fun e => by
    rcases hr i e.symm with e | e
    · exact hn e
    · omega)).trans (h.block i hi hn)⟩
theorem Kf.ag {F G : Nat → Prop} {w w' : World} (h : Kf F w w') (hG : ∀ k, G k → ¬ F k) : Ag G w w' := ⟨h.size, fun k hk hl => h.block k hl (hG k hk)⟩
theorem Ag.of_below {F : Nat → Prop} {w w' : World} (h : Below w.heap.size w w') : Ag F w w' := ⟨h.size, fun k _ hk => h.block k hk⟩
theorem Ow.ag {F : Nat → Prop} {w w' : World} {e k n : Nat} {v : Value} {cs : List Value} (h : Ow F w e k v n cs) (ha : Ag F w w') : Ow F w' e k v n cs := by
  refine ⟨⟨h.1.1, ?_⟩, h.2⟩
  rcases h.1.2 with h2 | ⟨g, cap, cur, rfl, hB, hg, hr⟩
  · exact .inl h2
  · exact .inr ⟨g, cap, cur, rfl, hB, (ha.2 g (h.2 g rfl) (Array.getElem?_eq_some_iff.1 hg).1).trans hg, hr⟩
theorem Ow.mono {F G : Nat → Prop} {w : World} {e k n : Nat} {v : Value} {cs : List Value} (h : Ow F w e k v n cs) (hG : ∀ k, F k → G k) : Ow G w e k v n cs := ⟨h.1, fun g hg => hG g (h.2 g hg)⟩
theorem Ow.tight {F : Nat → Prop} {w : World} {e k n : Nat} {v : Value} {cs : List Value} (h : Ow F w e k v n cs) : Ow (fun k => F k ∧ k < w.heap.size) w e k v n cs := by
  refine ⟨h.1, fun g hg => ⟨h.2 g hg, ?_⟩⟩
  rcases h.1.2 with ⟨rfl, _⟩ | ⟨g2, cap, cur, rfl, hB, hg2, hr⟩
  · cases hg
  · have e : g2 = g := by simpa [Value.ownBlock] using hg
    exact e ▸ (Array.getElem?_eq_some_iff.1 hg2).1
/-- an own row stays where another block grows -/
theorem Ow.grown {F : Nat → Prop} {w w' : World} {e k n : Nat} {v : Value} {cs : List Value} {r : Option Nat} (h : Ow F w e k v n cs) (hg : w.grownBy w' r) (hr : ∀ q, r = some q → some q ≠ v.ownBlock) : Ow F w' e k v n cs := by
  refine ⟨⟨h.1.1, ?_⟩, h.2⟩
  rcases h.1.2 with h2 | ⟨g, cap, cur, rfl, hB, hgc, hq⟩
  · exact .inl h2
  · exact .inr ⟨g, cap, cur, rfl, hB, (hg.block g (Array.getElem?_eq_some_iff.1 hgc).1 (fun e => hr g e.symm (by simp [Value.ownBlock]))).trans hgc, hq⟩
theorem Ow.block {F : Nat → Prop} {w : World} {e k n g : Nat} {v : Value} {cs : List Value} (h : Ow F w e k v n cs) (hg : v.ownBlock = some g) : ∃ cur, w.heap[g]? = some (.cells cur e (0, 0)) := by
  rcases h.1.2 with ⟨rfl, _⟩ | ⟨g2, cap, cur, rfl, hB, hg2, hr⟩
  · cases hg
  · have e : g2 = g := by simpa [Value.ownBlock] using hg
    exact ⟨cur, e ▸ hg2⟩
/-- rows of two types lie apart -/
theorem Ow.apart {F G : Nat → Prop} {w : World} {e e' k k' n n' : Nat} {v v' : Value} {cs cs' : List Value} (h : Ow F w e k v n cs) (h' : Ow G w e' k' v' n' cs') (hne : e ≠ e') (g : Nat) (hg : v.ownBlock = some g) : v'.ownBlock ≠ some g := by
  intro hg'
  obtain ⟨c1, h1⟩ := h.block hg
  obtain ⟨c2, h2⟩ := h'.block hg'
  rw [h1] at h2
  injection h2 with h2
  injection h2 with _ h2
  exact hne h2
theorem Hx.ag {F : Nat → Prop} {w w' : World} {x : Bm} (h : Hx F w x) (ha : Ag F w w') : Hx F w' x := ⟨h.1.ag ha, h.2.ag ha⟩
theorem Hx.mono {F G : Nat → Prop} {w : World} {x : Bm} (h : Hx F w x) (hG : ∀ k, F k → G k) : Hx G w x := ⟨h.1.mono hG, h.2.mono hG⟩
theorem Hx.tight {F : Nat → Prop} {w : World} {x : Bm} (h : Hx F w x) : Hx (fun k => F k ∧ k < w.heap.size) w x := ⟨h.1.tight, h.2.tight⟩
/-- one basket's versions in the book -/
structure En where
  id : Int
  v : Value
  xs : List Bm
def kv (e : En) : Kv := (e.id, e.v)
structure EnO (F : Nat → Prop) (w : World) (e : En) : Prop where
  row : Ow F w 25 10 e.v e.xs.length (rcs bcs e.xs)
  hx : ∀ x ∈ e.xs, Hx F w x
  len : 0 < e.xs.length
/-- a book at p, its map at m: what it has -/
structure Bo (F : Nat → Prop) (w : World) (p m : Nat) (L : List En) : Prop where
  bx : Bx w p #[.map (some m)] 57
  mp : Mp w m (L.map kv)
  fp : F p
  fm : F m
  en : ∀ e ∈ L, EnO F w e
  ap : L.Pairwise (fun a b => ∀ g, a.v.ownBlock = some g → b.v.ownBlock ≠ some g)
theorem EnO.ag {F : Nat → Prop} {w w' : World} {e : En} (h : EnO F w e) (ha : Ag F w w') : EnO F w' e := ⟨h.row.ag ha, fun x hx => (h.hx x hx).ag ha, h.len⟩
theorem Bo.lt {F : Nat → Prop} {w : World} {p m : Nat} {L : List En} (h : Bo F w p m L) : p < w.heap.size := h.bx.lt
theorem Bo.ag {F : Nat → Prop} {w w' : World} {p m : Nat} {L : List En} (h : Bo F w p m L) (ha : Ag F w w') : Bo F w' p m L :=
  ⟨(ha.2 p h.fp h.bx.lt).trans h.bx, h.mp.same (ha.2 m h.fm h.mp.lt), h.fp, h.fm, fun e he => (h.en e he).ag ha, h.ap⟩
theorem Bo.below {F : Nat → Prop} {w w' : World} {p m : Nat} {L : List En} (h : Bo F w p m L) (hb : Below w.heap.size w w') : Bo F w' p m L := h.ag (.of_below hb)
theorem Bo.mono {F G : Nat → Prop} {w : World} {p m : Nat} {L : List En} (h : Bo F w p m L) (hG : ∀ k, F k → G k) : Bo G w p m L :=
  ⟨h.bx, h.mp, hG _ h.fp, hG _ h.fm, fun e he => ⟨(h.en e he).row.mono hG, fun x hx => ((h.en e he).hx x hx).mono hG, (h.en e he).len⟩, h.ap⟩
theorem Bo.tight {F : Nat → Prop} {w : World} {p m : Nat} {L : List En} (h : Bo F w p m L) : Bo (fun k => F k ∧ k < w.heap.size) w p m L :=
  ⟨h.bx, h.mp, ⟨h.fp, h.bx.lt⟩, ⟨h.fm, h.mp.lt⟩, fun e he => ⟨(h.en e he).row.tight, fun x hx => ((h.en e he).hx x hx).tight, (h.en e he).len⟩, h.ap⟩
/-- what the map answers of an ID -/
def Has (L : List En) (id : Int) (v : Value) (xs : List Bm) : Prop := (∃ e ∈ L, e.id = id ∧ v = e.v ∧ xs = e.xs) ∨ ((∀ e ∈ L, e.id ≠ id) ∧ v = .slice none 0 0 ∧ xs = [])
theorem Mp.ndk {w : World} {m : Nat} {L : List Kv} (h : Mp w m L) : Ndk L := let ⟨_, _, _, _, h4⟩ := h; h4
theorem Mp.wf {w : World} {m : Nat} {L : List Kv} (h : Mp w m L) {p : Kv} (hp : p ∈ L) : Wf p.1 := let ⟨_, _, _, h3, _⟩ := h; h3 p hp
theorem Bo.has {F : Nat → Prop} {w : World} {p m : Nat} {L : List En} (h : Bo F w p m L) (id : Int) : ∃ xs, Has L id (gt (L.map kv) id) xs := by
  by_cases h1 : ∃ e ∈ L, e.id = id
  · obtain ⟨e, he, hid⟩ := h1
    have := gt_mem h.mp.ndk (List.mem_map.2 ⟨e, he, rfl⟩)
    exact ⟨e.xs, .inl ⟨e, he, hid, by rw [← hid]; exact this, rfl⟩⟩
  · refine ⟨[], .inr ⟨fun e he k => h1 ⟨e, he, k⟩, gt_none ?_, rfl⟩⟩
    intro p hp
    obtain ⟨e, he, rfl⟩ := List.mem_map.1 hp
    exact fun k => h1 ⟨e, he, k⟩
theorem Has.own {F : Nat → Prop} {w : World} {p m : Nat} {L : List En} {id : Int} {v : Value} {xs : List Bm} (h : Has L id v xs) (hb : Bo F w p m L) : Ow F w 25 10 v xs.length (rcs bcs xs) ∧ ∀ x ∈ xs, Hx F w x := by
  rcases h with ⟨e, he, _, rfl, rfl⟩ | ⟨_, rfl, rfl⟩
  · exact ⟨(hb.en e he).row, (hb.en e he).hx⟩
  · exact ⟨⟨World.ownsRow_nil _ _ _ _, fun g hg => by cases hg⟩, fun x hx => by cases hx⟩
/-- entries and the list of all rules -/
structure Rel (L : List En) (r : List Bk) : Prop where
  of : ∀ e ∈ L, of r e.id = e.xs.map (·.b)
  all : ∀ b ∈ r, ∃ e ∈ L, e.id = b.id
theorem Rel.has {L : List En} {r : List Bk} {id : Int} {v : Value} {xs : List Bm} (h : Rel L r) (hh : Has L id v xs) : xs.map (·.b) = Go.Proofs.Ytmjaijpikbdfkaa.of r id := by
  rcases hh with ⟨e, he, rfl, rfl, rfl⟩ | ⟨h1, rfl, rfl⟩
  · exact (h.of e he).symm
  · symm
    exact List.filter_eq_nil_iff.2 (fun b hb k => by
      obtain ⟨e, he, h2⟩ := h.all b hb
      exact h1 e he (h2.trans (by simpa using k)))
theorem Mp.no {w : World} {m g e : Nat} {L : List Kv} {k n : Nat} {F : Nat → Prop} {v : Value} {cs : List Value} (h : Mp w m L) (ho : Ow F w e k v n cs) : v.ownBlock ≠ some m := by
  intro hg
  obtain ⟨c, hc⟩ := ho.block hg
  exact h.nb hc rfl
theorem Bx.no {w : World} {q e k n T : Nat} {F : Nat → Prop} {v : Value} {cs : List Value} {x : Array Value} (h : Bx w q x T) (ho : Ow F w e k v n cs) (hT : T ≠ e) : v.ownBlock ≠ some q := by
  intro hg
  obtain ⟨c, hc⟩ := ho.block hg
  unfold Bx at h
  rw [h] at hc
  injection hc with hc
  injection hc with _ hc
  exact hT hc
theorem Bo.wf {F : Nat → Prop} {w : World} {p m : Nat} {L : List En} (h : Bo F w p m L) {e : En} (he : e ∈ L) : Wf e.id := h.mp.wf (List.mem_map.2 ⟨e, he, rfl⟩)
/-- the book's entries, with that of id another one -/
def put (L : List En) (e : En) : List En := e :: L.filter (fun x => decide (x.id ≠ e.id))
theorem put_kv (L : List En) (e : En) : (put L e).map kv = pt (L.map kv) e.id e.v := by
  unfold put pt
  rw [List.map_cons, List.filter_map]
  rfl
theorem ndk_en {L : List En} (h : Ndk (L.map kv)) {a b : En} (ha : a ∈ L) (hb : b ∈ L) (e : a.id = b.id) : a = b := by
  unfold Ndk at h
  rw [List.map_map] at h
  obtain ⟨i, hi, rfl⟩ := List.getElem_of_mem ha
  obtain ⟨j, hj, rfl⟩ := List.getElem_of_mem hb
  have hpw := List.pairwise_iff_getElem.1 (List.pairwise_map.1 h)
  rcases Nat.lt_trichotomy i j with h4 | rfl | h4
  · exact absurd e (hpw i j hi hj h4)
  · rfl
  · exact absurd e.symm (hpw j i hj hi h4)
/-- a row of the book has grown (in place, or anew), and the map has been told -/
theorem Bo.put {F : Nat → Prop} {w w1 w2 w3 : World} {p m : Nat} {L : List En} {id : Int} {v v' : Value} {xs : List Bm} {y : Bm} (h : Bo F w p m L) (hh : Has L id v xs) (hb : Below w.heap.size w w1)
    (hy : Hx (fun k => w.heap.size ≤ k) w1 y) (g1 : w1.grownBy w2 v.ownBlock) (ho : w2.ownsRow 0 25 10 v' (xs.length + 1) (rcs bcs xs ++ bcs y)) (hv : v'.ownBlock = v.ownBlock ∨ ∃ g, v'.ownBlock = some g ∧ w1.heap.size ≤ g)
    (g2 : w2.grownBy w3 (some m)) (hm : Mp w3 m (pt (L.map kv) id v')) :
    Bo (fun k => F k ∨ w.heap.size ≤ k) w3 p m (put L ⟨id, v', xs ++ [y]⟩) ∧ Kf F w w3 := by
  have h1 := h.below hb
  obtain ⟨hv1, hv2⟩ := hh.own h1
  have hmo : v.ownBlock ≠ some m := Mp.no (g := m) h1.mp hv1
  have hpo : v.ownBlock ≠ some p := h1.bx.no hv1 (by decide)
  have hpm : p ≠ m := fun e => h1.mp.nb h1.bx e
  have ov' : Ow (fun k => F k ∨ w.heap.size ≤ k) w2 25 10 v' (xs.length + 1) (rcs bcs xs ++ bcs y) := ⟨ho, fun g hg => by
    rcases hv with e | ⟨g3, e, h3⟩
    · rw [e] at hg; exact .inl (hv1.2 g hg)
    · rw [e] at hg; injection hg with hg; subst hg; exact .inr (Nat.le_trans hb.size h3)⟩
  have hm2 : w2.heap[m]? = w1.heap[m]? := g1.block m h1.mp.lt (fun e => hmo e.symm)
  have hmp2 : Mp w2 m (L.map kv) := h1.mp.same hm2
  have omv : ∀ {e k n : Nat} {G : Nat → Prop} {u : Value} {cs : List Value}, Ow G w1 e k u n cs → (∀ q, v.ownBlock = some q → u.ownBlock ≠ some q) → Ow G w3 e k u n cs := fun {e k n G u cs} hu hne => by
    have h2 := hu.grown g1 (fun q hq he => hne q hq he.symm)
    exact h2.grown g2 (fun q hq he => Mp.no (g := m) hmp2 h2 (by rw [← he, hq]))
  have hlists : ∀ {G : Nat → Prop} {x : Bm}, Hx G w1 x → Hx G w3 x := fun {G x} hx => ⟨omv hx.1 (fun q hq => hv1.apart hx.1 (by decide) q hq), omv hx.2 (fun q hq => hv1.apart hx.2 (by decide) q hq)⟩
  have hin : ∀ e ∈ L, e.id ≠ id → (∀ q, v.ownBlock = some q → e.v.ownBlock ≠ some q) := fun e he hne q hq hq2 => by
    rcases hh with ⟨e0, he0, hid, rfl, rfl⟩ | ⟨_, rfl, _⟩
    · obtain ⟨i, hi, rfl⟩ := List.getElem_of_mem he
      obtain ⟨j, hj, rfl⟩ := List.getElem_of_mem he0
      have hpw := List.pairwise_iff_getElem.1 h.ap
      rcases Nat.lt_trichotomy i j with h4 | rfl | h4
      · exact hpw i j hi hj h4 q hq2 hq
      · exact hne hid
      · exact hpw j i hj hi h4 q hq hq2
    · cases hq
  have o3 : Ow (fun k => F k ∨ w.heap.size ≤ k) w3 25 10 v' (xs.length + 1) (rcs bcs xs ++ bcs y) := ov'.grown g2 (fun q hq he => Mp.no (g := m) hmp2 ov' (by rw [← he, hq]))
  refine ⟨⟨?_, ?_, .inl h.fp, .inl h.fm, ?_, ?_⟩, ?_⟩
  · exact ((h1.bx.kept g1 (fun e => hpo e.symm)).kept g2 (by simpa using hpm))
  · rw [put_kv]; exact hm
  · intro e he
    rcases List.mem_cons.1 he with rfl | he
    · refine ⟨?_, ?_, by simp⟩
      · simp only [List.length_append, List.length_cons, List.length_nil]
        rw [rcs_snoc]
        exact o3
      · intro x hx
        rcases List.mem_append.1 hx with hx | hx
        · exact (hlists (hv2 x hx)).mono (fun k hk => .inl hk)
        · simp at hx
          subst hx
          exact (hlists hy).mono (fun k hk => .inr hk)
    · obtain ⟨he, hne⟩ := List.mem_filter.1 he
      have hne : e.id ≠ id := by simpa using hne
      have h5 := h1.en e he
      exact ⟨(omv h5.row (hin e he hne)).mono (fun k hk => .inl hk), fun x hx => (hlists (h5.hx x hx)).mono (fun k hk => .inl hk), h5.len⟩
  · refine List.pairwise_cons.2 ⟨fun e he g hg hg2 => ?_, h.ap.filter _⟩
    obtain ⟨he, hne⟩ := List.mem_filter.1 he
    have hne : e.id ≠ id := by simpa using hne
    have h5 := h1.en e he
    rcases hv with e1 | ⟨g3, e1, h3⟩
    · have hg : v'.ownBlock = some g := hg
      rw [e1] at hg
      exact hin e he hne g hg hg2
    · have hg : v'.ownBlock = some g := hg
      rw [e1] at hg
      injection hg with hg
      subst hg
      obtain ⟨c, hc⟩ := h5.row.block hg2
      have := (Array.getElem?_eq_some_iff.1 hc).1
      omega
  · exact ((Kf.of_below hb).grown g1 (fun k hk => .inl (hv1.2 k hk))).grown g2 (fun k hk => .inl (by injection hk with hk; subst hk; exact h.fm))
theorem Rel.put {L : List En} {r : List Bk} {id : Int} {v v' : Value} {xs : List Bm} {y : Bm} (h : Rel L r) (hh : Has L id v xs) (hid : y.b.id = id) : Rel (put L ⟨id, v', xs ++ [y]⟩) (ins r y.b) := by
  refine ⟨fun e he => ?_, fun b hb => ?_⟩
  · rw [of_ins]
    rcases List.mem_cons.1 he with rfl | he
    · rw [if_pos hid, ← h.has hh]
      simp
    · obtain ⟨he, hne⟩ := List.mem_filter.1 he
      have hne : e.id ≠ id := by simpa using hne
      rw [if_neg (fun k => hne (k.symm.trans hid))]
      exact h.of e he
  · rcases ins_mem.1 hb with rfl | hb
    · exact ⟨_, List.mem_cons_self .., hid.symm⟩
    · obtain ⟨e, he, h2⟩ := h.all b hb
      by_cases h3 : e.id = id
      · exact ⟨_, List.mem_cons_self .., h3.symm.trans h2⟩
      · exact ⟨e, List.mem_cons_of_mem _ (List.mem_filter.2 ⟨he, by simpa using h3⟩), h2⟩
/-- a book without baskets -/
theorem Bo.new {F : Nat → Prop} {w : World} {m : Nat} (hm : Mp w m []) (fm : F m) (fp : F w.heap.size) : Bo F (w.alloc (.cells #[.map (some m)] 57)) w.heap.size m [] :=
  ⟨Bx.new w _ _, hm.same (by rw [(below_a w _).block m hm.lt]), fp, fm, fun e he => (List.not_mem_nil he).elim, List.Pairwise.nil⟩
theorem Rel.new : Rel [] [] := ⟨fun e he => (List.not_mem_nil he).elim, fun b hb => (List.not_mem_nil hb).elim⟩
/-- append of all of a row to an own row -/
theorem app_all {α : Type} {T Sl k bytes : Nat} {z : Value} (hu : Try.prog.underlying Sl = some (.slice T)) (hi : (Try.prog.info? T).map (fun i => (i.zero, i.size, i.bytes)) = some (some z, k, bytes)) (hz : z.cells.size = k) (hk : 0 < k) {f : α → List Value} (hf : ∀ x, (f x).length = k) (h1 : ∀ x, ∀ u ∈ f x, u.oneCell' = true) {B n : Nat} {w : World} {v : Value} {cs : List Value} (h : w.ownsRow B T k v n cs) (hB : B ≤ w.heap.size) (a : Option Addr) (cap : Nat) (xs : List α) (hr : Rw k f w a xs) (hb : (n + xs.length) * bytes ≤ 140737488355328) (hn : n + xs.length ≤ maxLen) :
    ∃ v' w', (Builtin.append_ #[Sl, Sl] Sl #[v, .slice a xs.length cap]).run Try.prog w = .ok v' w' ∧ w'.ownsRow B T k v' (n + xs.length) (cs ++ rcs f xs) ∧ w.grownBy w' v.ownBlock ∧ (v'.ownBlock = v.ownBlock ∨ v'.ownBlock = some w.heap.size) := by
  obtain ⟨i0, hi, hz0, hz1, hz2⟩ := info_parts hi
  cases a with
  | none =>
    have h0 : xs.length = 0 := by
      rcases Nat.eq_zero_or_pos xs.length with h0 | h0
      · exact h0
      · obtain ⟨b, off, e, _⟩ := hr h0
        cases e
    have hx : xs = [] := List.eq_nil_of_length_eq_zero h0
    subst hx
    refine ⟨v, w, ?_, ?_, ⟨rfl, rfl, rfl, Nat.le_refl _, fun _ _ _ => rfl⟩, .inl rfl⟩
    · rcases h.2 with ⟨rfl, rfl⟩ | ⟨g, cap, cur, rfl, _, _, hnc, _⟩
      · simp [Builtin.append_, run_underlying hu, sizeOf, typeInfo, hi, Builtin.lenOf, Builtin.firstCells]
      · simp [Builtin.append_, run_underlying hu, sizeOf, typeInfo, hi, Builtin.lenOf, Builtin.firstCells, hnc, storeCells]
    · have : rcs f ([] : List α) = [] := rfl
      rw [this, List.append_nil]
      exact h
  | some ad =>
    obtain ⟨v', w', hr2, ho, hgr, _, hat⟩ := run_append_own_at (P := Try.prog) (w := w) B Sl Sl T i0 _ k bytes hu hi hz0 hz1 hz2 hz hk v _ _ h ad xs.length cap (rcs f xs) (rcs_len f k hf xs) (fun j u hj => by
      have hjl : j < xs.length * k := by
        rcases Nat.lt_or_ge j (xs.length * k) with h0 | h0
        · exact h0
        · rw [List.getElem?_eq_none (by rw [rcs_len f k hf]; exact h0)] at hj; cases hj
      have h0 : 0 < xs.length := by
        rcases Nat.eq_zero_or_pos xs.length with h0 | h0
        · rw [h0] at hjl; omega
        · exact h0
      obtain ⟨b, off, e, _, hc⟩ := hr h0
      injection e with e
      subst e
      have hq : j / k < xs.length := Nat.div_lt_of_lt_mul (by rw [Nat.mul_comm]; exact hjl)
      have h3 := hc (j / k) hq (j % k) (Nat.mod_lt _ hk)
      have h4 := flat_at f k hf xs (j / k) hq (j % k) (Nat.mod_lt _ hk)
      have h5 : j / k * k + j % k = j := by rw [Nat.mul_comm]; exact Nat.div_add_mod j k
      rw [h5] at h4
      have h6 : (rcs f xs)[j]? = some u := hj
      unfold rcs at h6
      rw [h6] at h4
      rw [← h4, Nat.add_assoc, h5] at h3
      by_cases hj0 : j = 0
      · subst hj0; simpa [Addr.add] using h3
      · simpa [Addr.add, hj0] using h3) (rcs_one h1 xs) hn hb hB
    exact ⟨v', w', hr2, ho, hgr, hat⟩
end Go.Proofs.Ytmjaijpikbdfkaa
