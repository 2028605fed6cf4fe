/- layer 11: accounts as keys; a map in memory holds balances; a range over it -/
import Derived.Test.YtbfnfebmmhhegaaB
import Derived.WalkKit
import Derived.ProofKit
import Derived.Handy
import Derived.WalkLawsBesides
import Derived.WalkSpells
import Derived.BigQuiet
import Derived.BigCall
import Derived.Deep.QuietTactic
import Derived.Deep.Light
import Derived.Deep.OwnRows
import Derived.Laws.AppendOwnNone
import Derived.Laws.Strings3
import Derived.Laws.RangeAny
import Derived.Deep.RegionWith
import Derived.Lib.BitFns
import Derived.Lib.Walk
import Derived.Lib.Strings
import Derived.Lib.OthersKept
import Derived.Deep.CutBlock
import Derived.Deep.DeepCutAuto
import Derived.Deep.LoopGhost
import Derived.Deep.RegionHeld3
import Derived.Lib.SmallJoins
import Derived.Maps.AppendAt
import Derived.Laws.IdiomStrings
import Derived.Lib.AppendZeros
import Derived.Deep.WholeRow
import Derived.Laws.BitsAllLaws
import Derived.Lib.ConvBytes
import Derived.Deep.RegionLaw
import Derived.Maps.OwnSet
import Derived.Maps.OwnOps
import Derived.Maps.RangeWalk
import Derived.Maps.Ext
import Derived.DeepKeys4
import Derived.Laws.StructEq
namespace Go.Proofs.Ytbfnfebmmhhegaa
open Go.RowKit
set_option linter.unusedVariables false
set_option linter.unusedSimpArgs false
theorem bl_eq : ∀ (x y : List UInt8), Op.bytesLess x y = decide (x < y)
  | [], [] => by simp [Op.bytesLess]
  | _ :: _, [] => by simp [Op.bytesLess]
  | [], _ :: _ => by simp [Op.bytesLess]
  | a :: x, b :: y => by
    rw [Op.bytesLess, bl_eq x y]
    simp only [List.cons_lt_cons_iff]
    by_cases h1 : a < b <;> by_cases h2 : a = b <;> by_cases h3 : x < y <;> simp [h1, h2, h3]
def S (l : List UInt8) : ByteArray := ⟨l.toArray⟩
theorem S_toList (l : List UInt8) : (S l).toList = l := by unfold S; rw [ByteArray.toList_eq]
theorem S_data (l : List UInt8) : (S l).data.toList = l := rfl
theorem S_size (l : List UInt8) : (S l).size = l.length := by unfold S; simp [ByteArray.size]
theorem toList_S (s : ByteArray) : S s.toList = s := by unfold S; rw [ByteArray.toList_eq]
theorem size_toList (s : ByteArray) : s.toList.length = s.size := by rw [ByteArray.toList_eq]; rfl
theorem S_inj {a b : List UInt8} (h : S a = S b) : a = b := by rw [← S_toList a, h, S_toList]
theorem KL : Maps.Keyed Try.prog 69 := Maps.Keyed.of_law (deep_law_laid (by kernel_rfl) (m := 2) (by omega) (of_decide_eq_true (by kernel_rfl)) (by kernel_rfl) (by rw [Try.underlying69]))
def ka (a : Num.Acc) : Value := .agg #[.int .i64 a.1, .int .i64 a.2.1, .string (S a.2.2)]
def kl (a : Num.Acc) : Lit := .string (keyBytes [.int .i64 a.1, .int .i64 a.2.1, .string a.2.2])
structure Wa (a : Num.Acc) : Prop where
  o : (Lit.int .i64 a.1).wf = true
  b : (Lit.int .i64 a.2.1).wf = true
  s : a.2.2.length ≤ maxLen
theorem cells40 : Try.prog.cellsOf 69 = 3 := by kernel_rfl
theorem cells3 : Try.prog.cellsOf 3 = 1 := by kernel_rfl
theorem cells9 : Try.prog.cellsOf 9 = 1 := by kernel_rfl
theorem key_mk {a : Num.Acc} (h : Wa a) : keyOf Try.prog 69 (ka a) = some (kl a) := by
  have h1 : Try.prog.keyType 69 = true := by kernel_rfl
  have h3 : ∃ n, Try.prog.types.size = n + 1 := ⟨Try.prog.types.size - 1, by have : 0 < Try.prog.types.size := of_decide_eq_true (by kernel_rfl); omega⟩
  obtain ⟨n, hn⟩ := h3
  have hs : (S a.2.2).size ≤ maxLen := by rw [S_size]; exact h.s
  unfold keyOf ka
  rw [Try.underlying69]
  simp only [h1, Bool.true_and, Value.formed, Try.underlying69, cells40, hn]
  simp [Program.keyLits, Try.underlying69, Try.underlying3, Try.underlying9, cells40, cells3, cells9, h.o, h.b, hs, Value.cells, S_data, kl]
theorem lits3 {d : Nat} {c : Value} {ls : List Lit} (h : Try.prog.keyLits (d + 1) 3 [c] = some ls) : ∃ x, c = .int .i64 x ∧ (Lit.int .i64 x).wf = true ∧ ls = [.int .i64 x] := by
  simp only [Program.keyLits, Try.underlying3] at h
  cases c with
  | int q x =>
    simp only at h
    split at h
    · rename_i hq
      obtain ⟨rfl, hw⟩ := hq
      exact ⟨x, rfl, hw, (Option.some.inj h).symm⟩
    · cases h
  | _ => cases h
theorem lits9 {d : Nat} {c : Value} {ls : List Lit} (h : Try.prog.keyLits (d + 1) 9 [c] = some ls) : ∃ s : ByteArray, c = .string s ∧ s.size ≤ maxLen ∧ ls = [.string s.data.toList] := by
  simp only [Program.keyLits, Try.underlying9] at h
  cases c with
  | string s =>
    simp only at h
    split at h
    · rename_i hq
      exact ⟨s, rfl, hq, (Option.some.inj h).symm⟩
    · cases h
  | _ => cases h
set_option maxRecDepth 20000 in
theorem key_inv {v : Value} {l : Lit} (h : keyOf Try.prog 69 v = some l) : ∃ a, Wa a ∧ v = ka a ∧ l = kl a := by
  have h1 : Try.prog.keyType 69 = true := by kernel_rfl
  have h3 : ∃ n, Try.prog.types.size = n + 1 := ⟨Try.prog.types.size - 1, by have : 0 < Try.prog.types.size := of_decide_eq_true (by kernel_rfl); omega⟩
  obtain ⟨n, hn⟩ := h3
  simp only [keyOf, Try.underlying69, h1, Bool.true_and] at h
  by_cases hf : Value.formed Try.prog 69 v = true
  · rw [if_pos hf] at h
    cases v with
    | agg cs =>
      simp only [Value.formed, Try.underlying69, cells40, beq_iff_eq] at hf
      obtain ⟨c0, c1, c2, rfl⟩ : ∃ c0 c1 c2, cs = #[c0, c1, c2] := ⟨cs[0], cs[1], cs[2], by apply Array.ext <;> simp [hf]; intro i hi; rcases i with _ | _ | _ | i <;> simp_all; omega⟩
      rw [hn] at h
      obtain ⟨ls, hls, rfl⟩ := Option.map_eq_some_iff.1 h
      have hls : Try.prog.keyLits (n + 1 + 1) 69 [c0, c1, c2] = some ls := hls
      rw [Program.keyLits.eq_6 _ _ _ _ _ Try.underlying69] at hls
      simp [cells40, cells3, cells9, List.mapM_cons, List.mapM_nil, Option.bind_eq_some_iff] at hls
      obtain ⟨l0, e0, _, ⟨l1, e1, _, ⟨l2, e2, rfl⟩, rfl⟩, rfl⟩ := hls
      obtain ⟨o, rfl, ho, rfl⟩ := lits3 e0
      obtain ⟨b, rfl, hb, rfl⟩ := lits3 e1
      obtain ⟨s, rfl, hs, rfl⟩ := lits9 e2
      refine ⟨(o, b, s.toList), ⟨ho, hb, by rw [size_toList]; exact hs⟩, ?_, ?_⟩
      · simp only [ka, toList_S]
      · simp [kl, ByteArray.toList_eq]
    | _ => simp [Value.formed, Try.underlying69] at hf
  · rw [if_neg hf] at h
    cases h
theorem kl_inj {a b : Num.Acc} (ha : Wa a) (hb : Wa b) (h : kl a = kl b) : a = b := by
  have e := KL.inj (key_mk ha) (by rw [h]; exact key_mk hb)
  simp only [ka, Value.agg.injEq, Array.mk.injEq, List.cons.injEq, Value.int.injEq, true_and, Value.string.injEq, and_true] at e
  exact Prod.ext e.1 (Prod.ext e.2.1 (S_inj e.2.2))
theorem kl_key (a : Num.Acc) : WideAt.IsKeyLit (kl a) := by unfold kl; trivial
abbrev Dt := DataW Unit
def En (p : Num.Bal) : Lit × Dt := (kl p.1, .lit (.int .i64 p.2))

/-- block m is a map that holds the balances L -/
def Mp (w : World) (m : Nat) (L : List Num.Bal) : Prop := ∃ es : List (Lit × Dt), w.ownsMap Try.prog 69 (plainElem Try.prog 3) m L.length (.map es) ∧ es.Perm (L.map En) ∧ (∀ p ∈ L, Wa p.1) ∧ Num.Srt L
theorem ins_perm (x : Lit × Dt) : ∀ l : List (Lit × Dt), (DataW.insert x l).Perm (x :: l)
  | [] => by simp [DataW.insert]
  | y :: r => by
    unfold DataW.insert
    split
    · exact List.Perm.refl _
    · exact ((ins_perm x r).cons y).trans (List.Perm.swap _ _ _)
theorem om_size {w : World} {m n : Nat} {es : List (Lit × Dt)} (h : w.ownsMap Try.prog 69 (plainElem Try.prog 3) m n (.map es)) : w.ownsMap Try.prog 69 (plainElem Try.prog 3) m es.length (.map es) := by
  obtain ⟨xs, c, h1, h2, h3, h4⟩ := h
  refine ⟨xs, c, h1, h2, ?_, h4⟩
  have e := DataW.map.inj h4
  rw [e, length_sorted]
  simp
theorem Mp.lt {w : World} {m : Nat} {L : List Num.Bal} (h : Mp w m L) : m < w.heap.size := let ⟨_, h1, _⟩ := h; h1.lt
theorem Mp.kept {w w' : World} {m : Nat} {L : List Num.Bal} {row : Option Nat} (h : Mp w m L) (g : w.grownBy w' row) (hr : some m ≠ row) : Mp w' m L :=
  let ⟨es, h1, h2⟩ := h; ⟨es, h1.kept g hr, h2⟩
theorem Mp.same {w w' : World} {m : Nat} {L : List Num.Bal} (h : Mp w m L) (e : w'.heap[m]? = w.heap[m]?) : Mp w' m L := by
  obtain ⟨es, ⟨xs, c, h1, h3⟩, h2⟩ := h
  exact ⟨es, ⟨xs, c, by rw [e]; exact h1, h3⟩, h2⟩
theorem Mp.made (w : World) : Mp (w.alloc (.map #[] 0)) w.heap.size [] := ⟨[], World.ownsMap_made w _ _ _, by simp, by simp, List.Pairwise.nil⟩
theorem at_get {L : List Num.Bal} {es : List (Lit × Dt)} (hp : es.Perm (L.map En)) (hw : ∀ p ∈ L, Wa p.1) (hs : Num.Srt L) {a : Num.Acc} (ha : Wa a) :
    (DataW.map es : Dt).atKey (kl a) (.lit (.int .i64 0)) = .lit (.int .i64 (Num.get L a)) := by
  unfold DataW.atKey
  simp only
  cases hf : es.find? (fun p => p.1.sameKey (kl a)) with
  | some q =>
    have h1 := List.mem_of_find?_eq_some hf
    have h2 := List.find?_some hf
    have h3 := WideAt.sameKey_eq h2
    obtain ⟨p, hpL, rfl⟩ := List.mem_map.1 (hp.mem_iff.1 h1)
    have e : p.1 = a := kl_inj (hw p hpL) ha h3
    simp only [En]
    rw [← e, Num.get_mem hs hpL]
  | none =>
    rw [Num.get_none]
    intro p hpL e
    have h1 := hp.mem_iff.2 (List.mem_map.2 ⟨p, hpL, rfl⟩)
    have h2 := List.find?_eq_none.1 hf _ h1
    simp only [En, e] at h2
    exact h2 (WideAt.sameKey_self (kl_key a))
theorem zero3 (w : World) : (zeroValue 3).run Try.prog w = .ok (.int .i64 0) w := by kernel_rfl
theorem Mp.look {w : World} {m : Nat} {L : List Num.Bal} (h : Mp w m L) {a : Num.Acc} (ha : Wa a) : (Instr.lookup 107 (.map (some m)) (ka a) false).run Try.prog w = .ok (.int .i64 (Num.get L a)) w := by
  obtain ⟨es, h1, h2, h3, h4⟩ := h
  obtain ⟨c, hr, hc, _⟩ := h1.lookup_int KL Try.underlying107 Try.underlying3 (zero3 w) (key_mk ha)
  rw [at_get h2 h3 h4 ha] at hc
  have : c = Num.get L a := by simp only [DataW.lit.injEq, Lit.int.injEq, true_and] at hc; exact hc.symm
  rw [hr, this]
theorem filter_map (L : List Num.Bal) (hw : ∀ p ∈ L, Wa p.1) {a : Num.Acc} (ha : Wa a) : (L.map En).filter (fun p => !p.1.sameKey (kl a)) = (L.filter (fun p => decide (p.1 ≠ a))).map En := by
  rw [List.filter_map]
  congr 1
  apply List.filter_congr
  intro p hp
  simp only [Function.comp, En]
  by_cases e : p.1 = a
  · rw [e, WideAt.sameKey_self (kl_key a)]; simp
  · rw [Maps.sameKey_ne (fun k => e (kl_inj (hw p hp) ha k))]; simp [e]
theorem Mp.drop {w : World} {m : Nat} {L : List Num.Bal} (h : Mp w m L) {a : Num.Acc} (ha : Wa a) (ty : TypeId) :
    ∃ w', (Builtin.delete_ #[107, 69] ty #[.map (some m), ka a]).run Try.prog w = .ok (.tuple #[]) w' ∧ Mp w' m (Num.set L a 0) ∧ w.grownBy w' (some m) ∧ w'.heap.size = w.heap.size := by
  obtain ⟨es, h1, h2, h3, h4⟩ := h
  obtain ⟨w', hr, ho, ht⟩ := h1.drop KL Try.underlying107 (key_mk ha) ty
  have hp : (es.filter fun p => !p.1.sameKey (kl a)).Perm ((Num.set L a 0).map En) := by
    rw [Num.set_zero, ← filter_map L h3 ha]; exact h2.filter _
  refine ⟨w', hr, ⟨es.filter fun p => !p.1.sameKey (kl a), ?_, hp, fun p m => ?_, Num.srt_set h4 a 0⟩, ht.grown, ?_⟩
  · have := om_size (es := es.filter fun p => !p.1.sameKey (kl a)) ho
    rw [hp.length_eq, List.length_map] at this
    exact this
  · rw [Num.set_zero] at m; exact h3 p (List.mem_filter.1 m).1
  · obtain ⟨_, _, _, _, _, rfl⟩ := ht
    simp [ChangeMaps.setBlock]
theorem Mp.store {w : World} {m : Nat} {L : List Num.Bal} (h : Mp w m L) {a : Num.Acc} (ha : Wa a) {n : Int} (hn : n ≠ 0) (hw : (Lit.int .i64 n).wf = true) (hl : L.length < maxLen) :
    ∃ w', (Instr.mapUpdate 107 (.map (some m)) (ka a) (.int .i64 n)).run Try.prog w = .ok () w' ∧ Mp w' m (Num.set L a n) ∧ w.grownBy w' (some m) ∧ w'.heap.size = w.heap.size := by
  obtain ⟨es, h1, h2, h3, h4⟩ := h
  obtain ⟨w', hr, ho, ht⟩ := h1.store KL Try.underlying107 hl (key_mk ha) (plainElem_int Try.underlying3 hw)
  have hp : (DataW.insert (kl a, (.lit (.int .i64 n) : Dt)) (es.filter fun p => !p.1.sameKey (kl a))).Perm ((Num.set L a n).map En) := by
    refine (ins_perm _ _).trans ?_
    refine List.Perm.trans ?_ ((Num.set_perm L a hn).map En).symm
    rw [List.map_cons, ← filter_map L h3 ha]
    exact (h2.filter _).cons _
  refine ⟨w', hr, ⟨_, ?_, hp, fun p m => ?_, Num.srt_set h4 a n⟩, ht.grown, ?_⟩
  · have := om_size (es := DataW.insert (kl a, (.lit (.int .i64 n) : Dt)) (es.filter fun p => !p.1.sameKey (kl a))) ho
    rw [hp.length_eq, List.length_map] at this
    exact this
  · rcases List.mem_cons.1 ((Num.set_perm L a hn).mem_iff.1 m) with rfl | m
    · exact ha
    · exact h3 p (List.mem_filter.1 m).1
  · obtain ⟨_, _, _, _, _, rfl⟩ := ht
    simp [ChangeMaps.setBlock]
/-- a range over the map m, at r, under way: C has come -/
def Rv (w : World) (m r : Nat) (L C : List Num.Bal) (cnt : Nat) : Prop :=
  ∃ (es : List (Lit × Dt)) (left : Lit → Bool), w.ranges Try.prog 69 (plainElem Try.prog 3) m r L.length (.map es) left cnt ∧ es.Perm (L.map En) ∧ (∀ p ∈ L, Wa p.1) ∧ Num.Srt L ∧
    (∀ p ∈ C, p ∈ L) ∧ C.Nodup ∧ ∀ p ∈ L, (left (kl p.1) = true ↔ p ∉ C)
theorem Rv.mp {w : World} {m r : Nat} {L C : List Num.Bal} {cnt : Nat} (h : Rv w m r L C cnt) : Mp w m L := let ⟨es, _, h1, h2, h3, h4, _⟩ := h; ⟨es, h1.owns, h2, h3, h4⟩
theorem Rv.left {w : World} {m r : Nat} {L C : List Num.Bal} {cnt : Nat} (h : Rv w m r L C cnt) : w.rangeLeft m r = cnt := let ⟨_, _, h1, _⟩ := h; h1.left_eq
theorem Rv.ne {w : World} {m r : Nat} {L C : List Num.Bal} {cnt : Nat} (h : Rv w m r L C cnt) : r ≠ m := let ⟨_, _, h1, _⟩ := h; h1.ne
theorem Rv.lt {w : World} {m r : Nat} {L C : List Num.Bal} {cnt : Nat} (h : Rv w m r L C cnt) : r < w.heap.size := let ⟨_, _, h1, _⟩ := h; h1.lt
theorem Rv.kept {w w' : World} {m r : Nat} {L C : List Num.Bal} {cnt : Nat} {row : Option Nat} (h : Rv w m r L C cnt) (g : w.grownBy w' row) (hm : some m ≠ row) (hr : some r ≠ row) : Rv w' m r L C cnt :=
  let ⟨es, left, h1, h2⟩ := h; ⟨es, left, h1.kept g hm hr, h2⟩
theorem has_mem {L : List Num.Bal} {es : List (Lit × Dt)} (hp : es.Perm (L.map En)) {l : Lit} (h : Maps.has (DataW.map es) l = true) : ∃ p ∈ L, kl p.1 = l := by
  obtain ⟨q, hq, hs⟩ := List.any_eq_true.1 h
  obtain ⟨p, hpL, rfl⟩ := List.mem_map.1 (hp.mem_iff.1 hq)
  exact ⟨p, hpL, WideAt.sameKey_eq hs⟩
theorem mem_has {L : List Num.Bal} {es : List (Lit × Dt)} (hp : es.Perm (L.map En)) {p : Num.Bal} (h : p ∈ L) : Maps.has (DataW.map es) (kl p.1) = true :=
  List.any_eq_true.2 ⟨En p, hp.mem_iff.2 (List.mem_map.2 ⟨p, h, rfl⟩), WideAt.sameKey_self (kl_key p.1)⟩
theorem Mp.range {w : World} {m : Nat} {L : List Num.Bal} (h : Mp w m L) :
    ∃ w', (Instr.range 107 (.map (some m))).run Try.prog w = .ok (.pointer (some ⟨w.heap.size, 0, none⟩)) w' ∧ Rv w' m w.heap.size L [] L.length ∧ w.grownBy w' none ∧ w'.heap.size = w.heap.size + 1 := by
  obtain ⟨es, h1, h2, h3, h4⟩ := h
  obtain ⟨w', hr, ho, hg, hs⟩ := h1.range KL Try.underlying107
  have e : Maps.size (DataW.map es) = L.length := by rw [Maps.size_eq, h2.length_eq, List.length_map]
  rw [e] at ho
  exact ⟨w', hr, ⟨es, _, ho, h2, h3, h4, by simp, List.Pairwise.nil, fun p hp => by simp [mem_has h2 hp]⟩, hg, hs⟩
theorem Rv.next {w : World} {m r : Nat} {L C : List Num.Bal} {cnt : Nat} (h : Rv w m r L C cnt) (ty : TypeId) :
    (C.Perm L ∧ (Instr.next (.pointer (some ⟨r, 0, none⟩)) false ty).run Try.prog w = .ok (.tuple #[.bool false]) w) ∨
    ∃ p w' cnt', p ∈ L ∧ (Instr.next (.pointer (some ⟨r, 0, none⟩)) false ty).run Try.prog w = .ok (.tuple #[.bool true, ka p.1, .int .i64 p.2]) w' ∧ Rv w' m r L (C ++ [p]) cnt' ∧ cnt' < cnt ∧
      w.grownBy w' (some r) ∧ w'.heap.size = w.heap.size ∧ (Instr.entry (.pointer (some ⟨r, 0, none⟩))).run Try.prog w' = .ok (.tuple #[ka p.1, .int .i64 p.2]) w' := by
  obtain ⟨es, left, h1, h2, h3, h4, h5, h6, h7⟩ := h
  rcases h1.next KL ty with ⟨_, hl, hr⟩ | ⟨key, v, l, y, w', cnt', hk, hl, hv, hat, hr, ho, hc, hg, hs, he⟩
  · refine .inl ⟨?_, hr⟩
    refine (List.perm_ext_iff_of_nodup h6 (Num.srt_nodup h4)).2 (fun p => ⟨h5 p, fun hp => ?_⟩)
    have := h7 p hp
    rw [hl] at this
    exact Decidable.of_not_not (fun k => Bool.noConfusion (this.2 k))
  · obtain ⟨a, ha, rfl, rfl⟩ := key_inv hk
    obtain ⟨c, rfl, rfl, hwc⟩ := plainElem_int_inv Try.underlying3 hv
    obtain ⟨p, hp, hkp⟩ := has_mem h2 (Maps.has_true_of_atKey hat)
    have ep : p.1 = a := kl_inj (h3 p hp) ha hkp
    have ec : c = p.2 := by
      have e1 := hat (.lit (.int .i64 0))
      rw [at_get h2 h3 h4 ha, ← ep, Num.get_mem h4 hp] at e1
      simp only [DataW.lit.injEq, Lit.int.injEq, true_and] at e1
      exact e1.symm
    subst ep ec
    have hpc : p ∉ C := (h7 p hp).1 hl
    refine .inr ⟨p, w', cnt', hp, hr, ⟨es, _, ho, h2, h3, h4, ?_, ?_, ?_⟩, hc, hg, hs, he⟩
    · intro q hq
      rcases List.mem_append.1 hq with hq | hq
      · exact h5 q hq
      · simp at hq; subst hq; exact hp
    · refine List.nodup_append.2 ⟨h6, by simp, fun x hx y hy => ?_⟩
      simp at hy
      subst hy
      exact fun e => hpc (e ▸ hx)
    · intro q hq
      simp only [Bool.and_eq_true, h7 q hq, Bool.not_eq_true', List.mem_append, List.mem_singleton, not_or]
      constructor
      · rintro ⟨k1, k2⟩
        refine ⟨k1, fun e => ?_⟩
        rw [e, WideAt.sameKey_self (kl_key _)] at k2
        cases k2
      · rintro ⟨k1, k2⟩
        exact ⟨k1, Maps.sameKey_ne (fun e => k2 (Num.srt_key h4 hq hp (kl_inj (h3 q hq) ha e)))⟩
end Go.Proofs.Ytbfnfebmmhhegaa
