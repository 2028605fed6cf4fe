/- layer 14: a map from numbers to slices, in memory; a range over it -/
import Derived.Test.YtmjaijpikbdfkaaC
import Derived.Test.YtmjaijpikbdfkaaD
import Derived.WalkKit
import Derived.ProofKit
import Derived.Handy
import Derived.WalkLawsBesides
import Derived.WalkSpells
import Derived.BigQuiet
import Derived.BigCall
import Derived.Deep.QuietTactic
import Derived.Deep.Light
import Derived.Deep.OwnRows
import Derived.Laws.AppendOwnNone
import Derived.Laws.Strings3
import Derived.Laws.RangeAny
import Derived.Deep.RegionWith
import Derived.Lib.BitFns
import Derived.Lib.Walk
import Derived.Lib.Strings
import Derived.Lib.OthersKept
import Derived.Deep.CutBlock
import Derived.Deep.DeepCutAuto
import Derived.Deep.LoopGhost
import Derived.Deep.RegionHeld3
import Derived.Lib.SmallJoins
import Derived.Maps.AppendAt
import Derived.Laws.IdiomStrings
import Derived.Lib.AppendZeros
import Derived.Deep.WholeRow
import Derived.Laws.BitsAllLaws
import Derived.Lib.ConvBytes
import Derived.Deep.RegionLaw
import Derived.Maps.OwnSet
import Derived.Maps.OwnOps
import Derived.Maps.RangeWalk
import Derived.Maps.Ext
import Derived.DeepKeys4
import Derived.Laws.StructEq
import Derived.Deep.MidRow
import Derived.Lib.Bytealg
import Derived.Lib.Overlaps
import Derived.Lib.AppendZerosOnto
import Derived.Laws.MakeOwn
namespace Go.Proofs.Ytmjaijpikbdfkaa
open Go.RowKit
set_option linter.unusedVariables false
set_option linter.unusedSimpArgs false
set_option maxRecDepth 20000
abbrev Dt := DataW Value
theorem KL : Maps.Keyed Try.prog 3 := Maps.int_keyed Try.underlying3
def Rv (v : Value) : Option (Dt × List MemPlace) := some (.held v, [])
def kl (a : Int) : Lit := .int .i64 a
def Wf (a : Int) : Prop := (Lit.int .i64 a).wf = true
abbrev Kv := Int × Value
def Et (p : Kv) : Lit × Dt := (kl p.1, .held p.2)
def gt (L : List Kv) (a : Int) : Value := match L.find? (fun p => decide (p.1 = a)) with
  | some p => p.2
  | none => .slice none 0 0
def pt (L : List Kv) (a : Int) (v : Value) : List Kv := (a, v) :: L.filter (fun p => decide (p.1 ≠ a))
def Ndk (L : List Kv) : Prop := (L.map Prod.fst).Nodup
theorem key_mk {a : Int} (h : Wf a) : keyOf Try.prog 3 (.int .i64 a) = some (kl a) := Maps.keyOf_int_mk Try.underlying3 h
theorem kl_inj {a b : Int} (h : kl a = kl b) : a = b := by unfold kl at h; injection h
theorem kl_key (a : Int) : WideAt.IsKeyLit (kl a) := by unfold kl; trivial
theorem gt_mem {L : List Kv} (h : Ndk L) {p : Kv} (hp : p ∈ L) : gt L p.1 = p.2 := by
  unfold gt
  cases hf : L.find? (fun q => decide (q.1 = p.1)) with
  | none =>
    have := List.find?_eq_none.1 hf p hp
    simp at this
  | some q =>
    have h1 := List.mem_of_find?_eq_some hf
    have h2 : q.1 = p.1 := by simpa using List.find?_some hf
    have : q = p := by
      obtain ⟨i, hi, rfl⟩ := List.getElem_of_mem h1
      obtain ⟨j, hj, rfl⟩ := List.getElem_of_mem hp
      have hpw := List.pairwise_iff_getElem.1 (List.pairwise_map.1 h)
      rcases Nat.lt_trichotomy i j with h4 | rfl | h4
      · exact absurd h2 (hpw i j hi hj h4)
      · rfl
      · exact absurd h2.symm (hpw j i hj hi h4)
    rw [this]
theorem gt_none {L : List Kv} {a : Int} (h : ∀ p ∈ L, p.1 ≠ a) : gt L a = .slice none 0 0 := by
  unfold gt
  rw [List.find?_eq_none.2 (fun p hp => by simpa using h p hp)]
/-- block m is a map that holds L -/
def Mp (w : World) (m : Nat) (L : List Kv) : Prop := ∃ es : List (Lit × Dt), w.ownsMap Try.prog 3 Rv m L.length (.map es) ∧ es.Perm (L.map Et) ∧ (∀ p ∈ L, Wf p.1) ∧ Ndk L
theorem ins_perm (x : Lit × Dt) : ∀ l : List (Lit × Dt), (DataW.insert x l).Perm (x :: l)
  | [] => by simp [DataW.insert]
  | y :: r => by
    unfold DataW.insert
    split
    · exact List.Perm.refl _
    · exact ((ins_perm x r).cons y).trans (List.Perm.swap _ _ _)
theorem om_size {w : World} {m n : Nat} {es : List (Lit × Dt)} (h : w.ownsMap Try.prog 3 Rv m n (.map es)) : w.ownsMap Try.prog 3 Rv m es.length (.map es) := by
  obtain ⟨xs, c, h1, h2, h3, h4⟩ := h
  refine ⟨xs, c, h1, h2, ?_, h4⟩
  have e := DataW.map.inj h4
  rw [e, length_sorted]
  simp
theorem Mp.lt {w : World} {m : Nat} {L : List Kv} (h : Mp w m L) : m < w.heap.size := let ⟨_, h1, _⟩ := h; h1.lt
theorem Mp.same {w w' : World} {m : Nat} {L : List Kv} (h : Mp w m L) (e : w'.heap[m]? = w.heap[m]?) : Mp w' m L := by
  obtain ⟨es, ⟨xs, c, h1, h3⟩, h2⟩ := h
  exact ⟨es, ⟨xs, c, by rw [e]; exact h1, h3⟩, h2⟩
theorem Mp.nb {w : World} {m g T : Nat} {L : List Kv} {cs : Array Value} {q : Nat × Nat} (h : Mp w m L) (hg : w.heap[g]? = some (.cells cs T q)) : g ≠ m := by
  rintro rfl
  obtain ⟨es, ⟨xs, c, h1, h3⟩, h2⟩ := h
  rw [hg] at h1
  cases h1
theorem Mp.made (w : World) : Mp (w.alloc (.map #[] 0)) w.heap.size [] := ⟨[], World.ownsMap_made w _ _ _, by simp, by simp, List.Pairwise.nil⟩
theorem at_get {L : List Kv} {es : List (Lit × Dt)} (hp : es.Perm (L.map Et)) (hs : Ndk L) (a : Int) :
    (DataW.map es : Dt).atKey (kl a) (.held (.slice none 0 0)) = .held (gt L a) := by
  unfold DataW.atKey
  simp only
  cases hf : es.find? (fun p => p.1.sameKey (kl a)) with
  | some q =>
    have h1 := List.mem_of_find?_eq_some hf
    have h2 := List.find?_some hf
    have h3 := WideAt.sameKey_eq h2
    obtain ⟨p, hpL, rfl⟩ := List.mem_map.1 (hp.mem_iff.1 h1)
    have e : p.1 = a := kl_inj h3
    simp only [Et]
    rw [← e, gt_mem hs hpL]
  | none =>
    rw [gt_none]
    intro p hpL e
    have h1 := hp.mem_iff.2 (List.mem_map.2 ⟨p, hpL, rfl⟩)
    have h2 := List.find?_eq_none.1 hf _ h1
    simp only [Et, e] at h2
    exact h2 (WideAt.sameKey_self (kl_key a))
theorem zero34 (w : World) : (zeroValue 34).run Try.prog w = .ok (.slice none 0 0) w := by kernel_rfl
theorem Mp.look {w : World} {m : Nat} {L : List Kv} (h : Mp w m L) {a : Int} (ha : Wf a) : (Instr.lookup 55 (.map (some m)) (.int .i64 a) false).run Try.prog w = .ok (gt L a) w := by
  obtain ⟨es, h1, h2, h3, h4⟩ := h
  obtain ⟨v, ps, hr, hc⟩ := h1.lookup KL Try.underlying55 (zero34 w) (zd := .held (.slice none 0 0)) (zp := []) rfl (key_mk ha)
  rw [at_get h2 h4 a] at hc
  unfold Rv at hc
  simp only [Option.some.injEq, Prod.mk.injEq, DataW.held.injEq] at hc
  rw [hr, hc.1]
theorem filter_map (L : List Kv) (a : Int) : (L.map Et).filter (fun p => !p.1.sameKey (kl a)) = (L.filter (fun p => decide (p.1 ≠ a))).map Et := by
  rw [List.filter_map]
  congr 1
  apply List.filter_congr
  intro p hp
  simp only [Function.comp, Et]
  by_cases e : p.1 = a
  · rw [e, WideAt.sameKey_self (kl_key a)]; simp
  · rw [Maps.sameKey_ne (fun k => e (kl_inj k))]; simp [e]
theorem ndk_pt {L : List Kv} (h : Ndk L) (a : Int) (v : Value) : Ndk (pt L a v) := by
  unfold Ndk pt at *
  rw [List.map_cons, List.nodup_cons]
  refine ⟨fun k => ?_, ?_⟩
  · obtain ⟨p, hp, e⟩ := List.mem_map.1 k
    have := (List.mem_filter.1 hp).2
    simp at this
    exact this e
  · exact (List.Sublist.map Prod.fst List.filter_sublist).nodup h
theorem Mp.store {w : World} {m : Nat} {L : List Kv} (h : Mp w m L) {a : Int} (ha : Wf a) (v : Value) (hl : L.length < maxLen) :
    ∃ w', (Instr.mapUpdate 55 (.map (some m)) (.int .i64 a) v).run Try.prog w = .ok () w' ∧ Mp w' m (pt L a v) ∧ w.grownBy w' (some m) ∧ w'.heap.size = w.heap.size := by
  obtain ⟨es, h1, h2, h3, h4⟩ := h
  obtain ⟨w', hr, ho, ht⟩ := h1.store KL Try.underlying55 hl (key_mk ha) (val := v) (d := .held v) (ps := []) rfl
  have hp : (DataW.insert (kl a, (.held v : Dt)) (es.filter fun p => !p.1.sameKey (kl a))).Perm ((pt L a v).map Et) := by
    refine (ins_perm _ _).trans ?_
    unfold pt
    rw [List.map_cons, ← filter_map L a]
    exact (h2.filter _).cons _
  refine ⟨w', hr, ⟨_, ?_, hp, fun p m => ?_, ndk_pt h4 a v⟩, ht.grown, ?_⟩
  · have := om_size (es := DataW.insert (kl a, (.held v : Dt)) (es.filter fun p => !p.1.sameKey (kl a))) ho
    rw [hp.length_eq, List.length_map] at this
    exact this
  · rcases List.mem_cons.1 m with rfl | m
    · exact ha
    · exact h3 p (List.mem_filter.1 m).1
  · obtain ⟨_, _, _, _, _, rfl⟩ := ht
    simp [ChangeMaps.setBlock]
/-- a range over the map m, at r, under way: C has come -/
def Rg (w : World) (m r : Nat) (L C : List Kv) (cnt : Nat) : Prop :=
  ∃ (es : List (Lit × Dt)) (left : Lit → Bool), w.ranges Try.prog 3 Rv m r L.length (.map es) left cnt ∧ es.Perm (L.map Et) ∧ (∀ p ∈ L, Wf p.1) ∧ Ndk L ∧
    (∀ p ∈ C, p ∈ L) ∧ C.Nodup ∧ ∀ p ∈ L, (left (kl p.1) = true ↔ p ∉ C)
theorem Rg.mp {w : World} {m r : Nat} {L C : List Kv} {cnt : Nat} (h : Rg w m r L C cnt) : Mp w m L := let ⟨es, _, h1, h2, h3, h4, _⟩ := h; ⟨es, h1.owns, h2, h3, h4⟩
theorem Rg.left {w : World} {m r : Nat} {L C : List Kv} {cnt : Nat} (h : Rg w m r L C cnt) : w.rangeLeft m r = cnt := let ⟨_, _, h1, _⟩ := h; h1.left_eq
theorem Rg.ne {w : World} {m r : Nat} {L C : List Kv} {cnt : Nat} (h : Rg w m r L C cnt) : r ≠ m := let ⟨_, _, h1, _⟩ := h; h1.ne
theorem Rg.lt {w : World} {m r : Nat} {L C : List Kv} {cnt : Nat} (h : Rg w m r L C cnt) : r < w.heap.size := let ⟨_, _, h1, _⟩ := h; h1.lt
theorem Rg.kept {w w' : World} {m r : Nat} {L C : List Kv} {cnt : Nat} {row : Option Nat} (h : Rg w m r L C cnt) (g : w.grownBy w' row) (hm : some m ≠ row) (hr : some r ≠ row) : Rg w' m r L C cnt :=
  let ⟨es, left, h1, h2⟩ := h; ⟨es, left, h1.kept g hm hr, h2⟩
theorem Rg.nodup {w : World} {m r : Nat} {L C : List Kv} {cnt : Nat} (h : Rg w m r L C cnt) : (C.map Prod.fst).Nodup := by
  obtain ⟨es, left, h1, h2, h3, h4, h5, h6, h7⟩ := h
  refine (List.pairwise_map.2 ?_)
  refine List.Pairwise.imp_of_mem ?_ h6
  intro a b ha hb hne e
  refine hne ?_
  have e1 := gt_mem h4 (h5 a ha)
  have e2 := gt_mem h4 (h5 b hb)
  rw [e] at e1
  exact Prod.ext e (e1.symm.trans e2)
theorem has_mem {L : List Kv} {es : List (Lit × Dt)} (hp : es.Perm (L.map Et)) {l : Lit} (h : Maps.has (DataW.map es) l = true) : ∃ p ∈ L, kl p.1 = l := by
  obtain ⟨q, hq, hs⟩ := List.any_eq_true.1 h
  obtain ⟨p, hpL, rfl⟩ := List.mem_map.1 (hp.mem_iff.1 hq)
  exact ⟨p, hpL, WideAt.sameKey_eq hs⟩
theorem mem_has {L : List Kv} {es : List (Lit × Dt)} (hp : es.Perm (L.map Et)) {p : Kv} (h : p ∈ L) : Maps.has (DataW.map es) (kl p.1) = true :=
  List.any_eq_true.2 ⟨Et p, hp.mem_iff.2 (List.mem_map.2 ⟨p, h, rfl⟩), WideAt.sameKey_self (kl_key p.1)⟩
theorem ndk_nodup {L : List Kv} (h : Ndk L) : L.Nodup := (List.pairwise_map.1 h).imp (fun h e => h (by rw [e]))
theorem Mp.range {w : World} {m : Nat} {L : List Kv} (h : Mp w m L) :
    ∃ w', (Instr.range 55 (.map (some m))).run Try.prog w = .ok (.pointer (some ⟨w.heap.size, 0, none⟩)) w' ∧ Rg w' m w.heap.size L [] L.length ∧ w.grownBy w' none ∧ w'.heap.size = w.heap.size + 1 := by
  obtain ⟨es, h1, h2, h3, h4⟩ := h
  obtain ⟨w', hr, ho, hg, hs⟩ := h1.range KL Try.underlying55
  have e : Maps.size (DataW.map es) = L.length := by rw [Maps.size_eq, h2.length_eq, List.length_map]
  rw [e] at ho
  exact ⟨w', hr, ⟨es, _, ho, h2, h3, h4, by simp, List.Pairwise.nil, fun p hp => by simp [mem_has h2 hp]⟩, hg, hs⟩
theorem Rg.next {w : World} {m r : Nat} {L C : List Kv} {cnt : Nat} (h : Rg w m r L C cnt) (ty : TypeId) :
    (C.Perm L ∧ (Instr.next (.pointer (some ⟨r, 0, none⟩)) false ty).run Try.prog w = .ok (.tuple #[.bool false]) w) ∨
    ∃ p w' cnt', p ∈ L ∧ (Instr.next (.pointer (some ⟨r, 0, none⟩)) false ty).run Try.prog w = .ok (.tuple #[.bool true, .int .i64 p.1, p.2]) w' ∧ Rg w' m r L (C ++ [p]) cnt' ∧ cnt' < cnt ∧
      w.grownBy w' (some r) ∧ w'.heap.size = w.heap.size ∧ (Instr.entry (.pointer (some ⟨r, 0, none⟩))).run Try.prog w' = .ok (.tuple #[.int .i64 p.1, p.2]) w' ∧ p ∉ C := by
  obtain ⟨es, left, h1, h2, h3, h4, h5, h6, h7⟩ := h
  rcases h1.next KL ty with ⟨_, hl, hr⟩ | ⟨key, v, l, y, w', cnt', hk, hl, hv, hat, hr, ho, hc, hg, hs, he⟩
  · refine .inl ⟨?_, hr⟩
    refine (List.perm_ext_iff_of_nodup h6 (ndk_nodup h4)).2 (fun p => ⟨h5 p, fun hp => ?_⟩)
    have := h7 p hp
    rw [hl] at this
    exact Classical.byContradiction (fun k => Bool.noConfusion (this.2 k))
  · obtain ⟨a, rfl, rfl, ha⟩ := Maps.keyOf_int_inv Try.underlying3 hk
    unfold Rv at hv
    simp only [Option.some.injEq] at hv
    subst hv
    obtain ⟨p, hp, hkp⟩ := has_mem h2 (Maps.has_true_of_atKey hat)
    have ep : p.1 = a := kl_inj hkp
    have ec : v = p.2 := by
      have e1 := hat (.held (.slice none 0 0))
      rw [show (Lit.int .i64 a) = kl a from rfl, at_get h2 h4 a, ← ep, gt_mem h4 hp] at e1
      simp only [DataW.held.injEq] at e1
      exact e1.symm
    subst ep ec
    have hpc : p ∉ C := (h7 p hp).1 hl
    refine .inr ⟨p, w', cnt', hp, hr, ⟨es, _, ho, h2, h3, h4, ?_, ?_, ?_⟩, hc, hg, hs, he, hpc⟩
    · intro q hq
      rcases List.mem_append.1 hq with hq | hq
      · exact h5 q hq
      · simp at hq; subst hq; exact hp
    · refine List.nodup_append.2 ⟨h6, by simp, fun x hx y hy => ?_⟩
      simp at hy
      subst hy
      exact fun e => hpc (e ▸ hx)
    · intro q hq
      simp only [Bool.and_eq_true, h7 q hq, Bool.not_eq_true', List.mem_append, List.mem_singleton, not_or]
      constructor
      · rintro ⟨k1, k2⟩
        refine ⟨k1, fun e => ?_⟩
        rw [e, show Lit.int .i64 p.1 = kl p.1 from rfl, WideAt.sameKey_self (kl_key _)] at k2
        cases k2
      · rintro ⟨k1, k2⟩
        refine ⟨k1, Maps.sameKey_ne (fun e => k2 ?_)⟩
        have e : q.1 = p.1 := kl_inj e
        have e1 := gt_mem h4 hq
        have e2 := gt_mem h4 hp
        rw [e] at e1
        exact Prod.ext e (e1.symm.trans e2)
end Go.Proofs.Ytmjaijpikbdfkaa
