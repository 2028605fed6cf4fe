/- layer 16: maps from numbers, and from texts, to numbers, in memory -/
import Derived.Test.YtdfadcbchiogjaaGreatRows
import Derived.WalkKit
import Derived.ProofKit
import Derived.Handy
import Derived.WalkLawsBesides
import Derived.WalkSpells
import Derived.BigQuiet
import Derived.BigCall
import Derived.Deep.QuietTactic
import Derived.Deep.Light
import Derived.Deep.OwnRows
import Derived.Laws.AppendOwnNone
import Derived.Laws.Strings3
import Derived.Laws.RangeAny
import Derived.Deep.RegionWith
import Derived.Lib.BitFns
import Derived.Lib.Walk
import Derived.Lib.Strings
import Derived.Lib.OthersKept
import Derived.Deep.CutBlock
import Derived.Deep.DeepCutAuto
import Derived.Deep.LoopGhost
import Derived.Deep.RegionHeld3
import Derived.Lib.SmallJoins
import Derived.Maps.AppendAt
import Derived.Laws.IdiomStrings
import Derived.Lib.AppendZeros
import Derived.Deep.WholeRow
import Derived.Laws.BitsAllLaws
import Derived.Lib.ConvBytes
import Derived.Deep.RegionLaw
import Derived.Maps.OwnSet
import Derived.Maps.OwnOps
import Derived.Maps.RangeWalk
import Derived.Maps.Ext
import Derived.DeepKeys4
import Derived.Laws.StructEq
import Derived.Deep.MidRow
import Derived.Lib.Bytealg
import Derived.Lib.AppendZerosOnto
import Derived.Laws.MakeOwn
import Derived.Deep.Upon
import Derived.Sort.KeysCollected
namespace Go.Proofs.YtdfadcbchiogjaaGreat
open Go.RowKit
set_option linter.unusedVariables false
set_option linter.unusedSimpArgs false
set_option maxRecDepth 20000
set_option linter.unusedSectionVars false
abbrev Dt := DataW Value
def Rv (v : Value) : Option (Dt × List MemPlace) := some (.held v, [])
structure Ky (α : Type) where
  K : TypeId
  M : TypeId
  kv : α → Value
  kl : α → Lit
  wf : α → Prop
structure Ky.Ok {α : Type} (y : Ky α) (P : Program) (E : TypeId) : Prop where
  keyed : Maps.Keyed P y.K
  und : P.underlying y.M = some (.map y.K E)
  zero : ∀ w, (zeroValue E).run P w = .ok (.int .i64 0) w
  kof : ∀ a, y.wf a → keyOf P y.K (y.kv a) = some (y.kl a)
  inv : ∀ v l, keyOf P y.K v = some l → ∃ a, v = y.kv a ∧ l = y.kl a ∧ y.wf a
  inj : ∀ a b, y.kl a = y.kl b → a = b
  key : ∀ a, WideAt.IsKeyLit (y.kl a)
variable {α : Type} [DecidableEq α] {y : Ky α} {P : Program} {E : TypeId}
def Ky.Et (y : Ky α) (p : α × Int) : Lit × Dt := (y.kl p.1, .held (.int .i64 p.2))
def gt (L : List (α × Int)) (a : α) : Int := match L.find? (fun p => decide (p.1 = a)) with
  | some p => p.2
  | none => 0
def dr (L : List (α × Int)) (a : α) : List (α × Int) := L.filter (fun p => decide (p.1 ≠ a))
def pt (L : List (α × Int)) (a : α) (v : Int) : List (α × Int) := (a, v) :: dr L a
def Ndk (L : List (α × Int)) : Prop := (L.map Prod.fst).Nodup
theorem gt_mem {L : List (α × Int)} (h : Ndk L) {p : α × Int} (hp : p ∈ L) : gt L p.1 = p.2 := by
  unfold gt
  cases hf : L.find? (fun q => decide (q.1 = p.1)) with
  | none =>
    have := List.find?_eq_none.1 hf p hp
    simp at this
  | some q =>
    have h1 := List.mem_of_find?_eq_some hf
    have h2 : q.1 = p.1 := by simpa using List.find?_some hf
    have : q = p := by
      obtain ⟨i, hi, rfl⟩ := List.getElem_of_mem h1
      obtain ⟨j, hj, rfl⟩ := List.getElem_of_mem hp
      have hpw := List.pairwise_iff_getElem.1 (List.pairwise_map.1 h)
      rcases Nat.lt_trichotomy i j with h4 | rfl | h4
      · exact absurd h2 (hpw i j hi hj h4)
      · rfl
      · exact absurd h2.symm (hpw j i hj hi h4)
    rw [this]
theorem gt_none {L : List (α × Int)} {a : α} (h : ∀ p ∈ L, p.1 ≠ a) : gt L a = 0 := by
  unfold gt
  rw [List.find?_eq_none.2 (fun p hp => by simpa using h p hp)]
theorem gt_has {L : List (α × Int)} {a : α} (h : gt L a ≠ 0) : ∃ p ∈ L, p.1 = a := by
  by_cases h1 : ∃ p ∈ L, p.1 = a
  · exact h1
  · exact absurd (gt_none (fun p hp e => h1 ⟨p, hp, e⟩)) h
theorem ndk_dr {L : List (α × Int)} (h : Ndk L) (a : α) : Ndk (dr L a) := (List.Sublist.map Prod.fst List.filter_sublist).nodup h
theorem ndk_pt {L : List (α × Int)} (h : Ndk L) (a : α) (v : Int) : Ndk (pt L a v) := by
  unfold Ndk pt at *
  rw [List.map_cons, List.nodup_cons]
  refine ⟨fun k => ?_, ndk_dr h a⟩
  obtain ⟨p, hp, e⟩ := List.mem_map.1 k
  have := (List.mem_filter.1 hp).2
  simp at this
  exact this e
theorem gt_dr {L : List (α × Int)} (h : Ndk L) (a b : α) : gt (dr L a) b = if b = a then 0 else gt L b := by
  split
  · rename_i e
    subst e
    exact gt_none (fun p hp => by simpa using (List.mem_filter.1 hp).2)
  · rename_i e
    by_cases h1 : ∃ p ∈ L, p.1 = b
    · obtain ⟨p, hp, rfl⟩ := h1
      rw [gt_mem h hp]
      exact gt_mem (ndk_dr h a) (List.mem_filter.2 ⟨hp, by simpa using e⟩)
    · rw [gt_none (fun p hp e => h1 ⟨p, hp, e⟩), gt_none (L := dr L a) (fun p hp e => h1 ⟨p, (List.mem_filter.1 hp).1, e⟩)]
theorem gt_pt {L : List (α × Int)} (h : Ndk L) (a : α) (v : Int) (b : α) : gt (pt L a v) b = if b = a then v else gt L b := by
  split
  · rename_i e
    subst e
    exact gt_mem (ndk_pt h b v) (p := (b, v)) (by simp [pt])
  · rename_i e
    have h2 := gt_dr h a b
    rw [if_neg e] at h2
    rw [← h2]
    show (match (pt L a v).find? (fun p => decide (p.1 = b)) with | some p => p.2 | none => 0) = _
    unfold pt
    rw [List.find?_cons_of_neg (by simpa using fun k => e k.symm)]
    rfl
/-- block m is a map that holds L -/
def Mp (y : Ky α) (P : Program) (w : World) (m : Nat) (L : List (α × Int)) : Prop := ∃ es : List (Lit × Dt), w.ownsMap P y.K Rv m L.length (.map es) ∧ es.Perm (L.map y.Et) ∧ (∀ p ∈ L, y.wf p.1) ∧ Ndk L
theorem ins_perm (x : Lit × Dt) : ∀ l : List (Lit × Dt), (DataW.insert x l).Perm (x :: l)
  | [] => by simp [DataW.insert]
  | y :: r => by
    unfold DataW.insert
    split
    · exact List.Perm.refl _
    · exact ((ins_perm x r).cons y).trans (List.Perm.swap _ _ _)
theorem om_size {K : TypeId} {w : World} {m n : Nat} {es : List (Lit × Dt)} (h : w.ownsMap P K Rv m n (.map es)) : w.ownsMap P K Rv m es.length (.map es) := by
  obtain ⟨xs, c, h1, h2, h3, h4⟩ := h
  refine ⟨xs, c, h1, h2, ?_, h4⟩
  have e := DataW.map.inj h4
  rw [e, length_sorted]
  simp
theorem Mp.lt {w : World} {m : Nat} {L : List (α × Int)} (h : Mp y P w m L) : m < w.heap.size := let ⟨_, h1, _⟩ := h; h1.lt
theorem Mp.same {w w' : World} {m : Nat} {L : List (α × Int)} (h : Mp y P w m L) (e : w'.heap[m]? = w.heap[m]?) : Mp y P w' m L := by
  obtain ⟨es, ⟨xs, c, h1, h3⟩, h2⟩ := h
  exact ⟨es, ⟨xs, c, by rw [e]; exact h1, h3⟩, h2⟩
theorem Mp.kept {w w' : World} {m : Nat} {L : List (α × Int)} {row : Option Nat} (h : Mp y P w m L) (g : w.grownBy w' row) (hr : some m ≠ row) : Mp y P w' m L := h.same (g.block m h.lt hr)
theorem Mp.nb {w : World} {m g T : Nat} {L : List (α × Int)} {cs : Array Value} {q : Nat × Nat} (h : Mp y P w m L) (hg : w.heap[g]? = some (.cells cs T q)) : g ≠ m := by
  rintro rfl
  obtain ⟨es, ⟨xs, c, h1, h3⟩, h2⟩ := h
  rw [hg] at h1
  cases h1
theorem Mp.made (w : World) : Mp y P (w.alloc (.map #[] 0)) w.heap.size [] := ⟨[], World.ownsMap_made w _ _ _, by simp, by simp, List.Pairwise.nil⟩
theorem at_get (O : y.Ok P E) {L : List (α × Int)} {es : List (Lit × Dt)} (hp : es.Perm (L.map y.Et)) (hs : Ndk L) (a : α) :
    (DataW.map es : Dt).atKey (y.kl a) (.held (.int .i64 0)) = .held (.int .i64 (gt L a)) := by
  unfold DataW.atKey
  simp only
  cases hf : es.find? (fun p => p.1.sameKey (y.kl a)) with
  | some q =>
    have h1 := List.mem_of_find?_eq_some hf
    have h2 := List.find?_some hf
    have h3 := WideAt.sameKey_eq h2
    obtain ⟨p, hpL, rfl⟩ := List.mem_map.1 (hp.mem_iff.1 h1)
    have e : p.1 = a := O.inj _ _ h3
    simp only [Ky.Et]
    rw [← e, gt_mem hs hpL]
  | none =>
    rw [gt_none]
    intro p hpL e
    have h1 := hp.mem_iff.2 (List.mem_map.2 ⟨p, hpL, rfl⟩)
    have h2 := List.find?_eq_none.1 hf _ h1
    simp only [Ky.Et, e] at h2
    exact h2 (WideAt.sameKey_self (O.key a))
theorem Mp.look (O : y.Ok P E) {w : World} {m : Nat} {L : List (α × Int)} (h : Mp y P w m L) {a : α} (ha : y.wf a) : (Instr.lookup y.M (.map (some m)) (y.kv a) false).run P w = .ok (.int .i64 (gt L a)) w := by
  obtain ⟨es, h1, h2, h3, h4⟩ := h
  obtain ⟨v, ps, hr, hc⟩ := h1.lookup O.keyed O.und (O.zero w) (zd := .held (.int .i64 0)) (zp := []) rfl (O.kof a ha)
  rw [at_get O h2 h4 a] at hc
  unfold Rv at hc
  simp only [Option.some.injEq, Prod.mk.injEq, DataW.held.injEq] at hc
  rw [hr, hc.1]
theorem filter_map (O : y.Ok P E) (L : List (α × Int)) (a : α) : (L.map y.Et).filter (fun p => !p.1.sameKey (y.kl a)) = (dr L a).map y.Et := by
  unfold dr
  rw [List.filter_map]
  congr 1
  apply List.filter_congr
  intro p hp
  simp only [Function.comp, Ky.Et]
  by_cases e : p.1 = a
  · rw [e, WideAt.sameKey_self (O.key a)]; simp
  · rw [Maps.sameKey_ne (fun k => e (O.inj _ _ k))]; simp [e]
theorem Mp.store (O : y.Ok P E) {w : World} {m : Nat} {L : List (α × Int)} (h : Mp y P w m L) {a : α} (ha : y.wf a) (v : Int) (hl : L.length < maxLen) :
    ∃ w', (Instr.mapUpdate y.M (.map (some m)) (y.kv a) (.int .i64 v)).run P w = .ok () w' ∧ Mp y P w' m (pt L a v) ∧ w.grownBy w' (some m) ∧ w'.heap.size = w.heap.size := by
  obtain ⟨es, h1, h2, h3, h4⟩ := h
  obtain ⟨w', hr, ho, ht⟩ := h1.store O.keyed O.und hl (O.kof a ha) (val := .int .i64 v) (d := .held (.int .i64 v)) (ps := []) rfl
  have hp : (DataW.insert (y.kl a, (.held (.int .i64 v) : Dt)) (es.filter fun p => !p.1.sameKey (y.kl a))).Perm ((pt L a v).map y.Et) := by
    refine (ins_perm _ _).trans ?_
    unfold pt
    rw [List.map_cons, ← filter_map O L a]
    exact (h2.filter _).cons _
  refine ⟨w', hr, ⟨_, ?_, hp, fun p m => ?_, ndk_pt h4 a v⟩, ht.grown, ?_⟩
  · have := om_size (es := DataW.insert (y.kl a, (.held (.int .i64 v) : Dt)) (es.filter fun p => !p.1.sameKey (y.kl a))) ho
    rw [hp.length_eq, List.length_map] at this
    exact this
  · rcases List.mem_cons.1 m with rfl | m
    · exact ha
    · exact h3 p (List.mem_filter.1 m).1
  · obtain ⟨_, _, _, _, _, rfl⟩ := ht
    simp [ChangeMaps.setBlock]
theorem Mp.drop (O : y.Ok P E) {w : World} {m : Nat} {L : List (α × Int)} (h : Mp y P w m L) {a : α} (ha : y.wf a) (ty : TypeId) :
    ∃ w', (Builtin.delete_ #[y.M, y.K] ty #[.map (some m), y.kv a]).run P w = .ok (.tuple #[]) w' ∧ Mp y P w' m (dr L a) ∧ w.grownBy w' (some m) ∧ w'.heap.size = w.heap.size := by
  obtain ⟨es, h1, h2, h3, h4⟩ := h
  obtain ⟨w', hr, ho, ht⟩ := h1.drop O.keyed O.und (O.kof a ha) ty
  have hp : (es.filter fun p => !p.1.sameKey (y.kl a)).Perm ((dr L a).map y.Et) := by
    rw [← filter_map O L a]; exact h2.filter _
  refine ⟨w', hr, ⟨es.filter fun p => !p.1.sameKey (y.kl a), ?_, hp, fun p m => h3 p (List.mem_filter.1 m).1, ndk_dr h4 a⟩, ht.grown, ?_⟩
  · have := om_size (es := es.filter fun p => !p.1.sameKey (y.kl a)) ho
    rw [hp.length_eq, List.length_map] at this
    exact this
  · obtain ⟨_, _, _, _, _, rfl⟩ := ht
    simp [ChangeMaps.setBlock]
/-- block m is a map that tells f, and holds what isn't 0 alone -/
def Fm (y : Ky α) (P : Program) (w : World) (m : Nat) (f : α → Int) : Prop := ∃ L, Mp y P w m L ∧ (∀ a, gt L a = f a) ∧ ∀ p ∈ L, p.2 ≠ 0
def adj (f : α → Int) (a : α) (d : Int) (b : α) : Int := if b = a then f a + d else f b
theorem Fm.lt {w : World} {m : Nat} {f : α → Int} (h : Fm y P w m f) : m < w.heap.size := let ⟨_, h1, _⟩ := h; h1.lt
theorem Fm.same {w w' : World} {m : Nat} {f : α → Int} (h : Fm y P w m f) (e : w'.heap[m]? = w.heap[m]?) : Fm y P w' m f := let ⟨L, h1, h2⟩ := h; ⟨L, h1.same e, h2⟩
theorem Fm.kept {w w' : World} {m : Nat} {f : α → Int} {row : Option Nat} (h : Fm y P w m f) (g : w.grownBy w' row) (hr : some m ≠ row) : Fm y P w' m f := let ⟨L, h1, h2⟩ := h; ⟨L, h1.kept g hr, h2⟩
theorem Fm.nb {w : World} {m g T : Nat} {f : α → Int} {cs : Array Value} {q : Nat × Nat} (h : Fm y P w m f) (hg : w.heap[g]? = some (.cells cs T q)) : g ≠ m := let ⟨_, h1, _⟩ := h; h1.nb hg
theorem Fm.made (w : World) : Fm y P (w.alloc (.map #[] 0)) w.heap.size (fun _ => 0) := ⟨[], Mp.made w, fun _ => rfl, by simp⟩
theorem Fm.ext {w : World} {m : Nat} {f g : α → Int} (h : Fm y P w m f) (e : ∀ a, f a = g a) : Fm y P w m g := let ⟨L, h1, h2, h3⟩ := h; ⟨L, h1, fun a => (h2 a).trans (e a), h3⟩
theorem Fm.look (O : y.Ok P E) {w : World} {m : Nat} {f : α → Int} (h : Fm y P w m f) {a : α} (ha : y.wf a) : (Instr.lookup y.M (.map (some m)) (y.kv a) false).run P w = .ok (.int .i64 (f a)) w := by
  obtain ⟨L, h1, h2, _⟩ := h
  rw [h1.look O ha, h2]
theorem nd_len {β : Type} : ∀ {C L : List β}, C.Nodup → (∀ x ∈ C, x ∈ L) → C.length ≤ L.length
  | [], _, _, _ => Nat.zero_le _
  | x :: C, L, hn, hs => by
    obtain ⟨s, t, rfl⟩ := List.append_of_mem (hs x (by simp))
    have hn2 := List.nodup_cons.1 hn
    have := nd_len (L := s ++ t) hn2.2 (fun y hy => by
      have h := hs y (by simp [hy])
      simp only [List.mem_append, List.mem_cons] at h ⊢
      rcases h with h | h | h
      · exact .inl h
      · rw [h] at hy; exact absurd hy hn2.1
      · exact .inr h)
    simp only [List.length_append, List.length_cons] at this ⊢
    omega
/-- a cover made so much greater, or less: the store, and what follows -/
theorem Fm.step (O : y.Ok P E) {w : World} {m : Nat} {f : α → Int} (h : Fm y P w m f) {a : α} (ha : y.wf a) (d : Int) {S : List α} (hS : ∀ b, f b ≠ 0 → b ∈ S) (hl : S.length < maxLen) :
    ∃ w', (Instr.mapUpdate y.M (.map (some m)) (y.kv a) (.int .i64 (f a + d))).run P w = .ok () w' ∧ w.grownBy w' (some m) ∧ w'.heap.size = w.heap.size ∧
      (Instr.lookup y.M (.map (some m)) (y.kv a) false).run P w' = .ok (.int .i64 (f a + d)) w' ∧
      (f a + d ≠ 0 → Fm y P w' m (adj f a d)) ∧
      (f a + d = 0 → ∀ ty, ∃ w2, (Builtin.delete_ #[y.M, y.K] ty #[.map (some m), y.kv a]).run P w' = .ok (.tuple #[]) w2 ∧ Fm y P w2 m (adj f a d) ∧ w'.grownBy w2 (some m) ∧ w2.heap.size = w'.heap.size) := by
  obtain ⟨L, h1, h2, h3⟩ := h
  have hnd : Ndk L := let ⟨_, _, _, _, k⟩ := h1; k
  have hL : L.length ≤ S.length := by
    have := nd_len hnd (L := S) (fun x hx => by
      obtain ⟨p, hp, rfl⟩ := List.mem_map.1 hx
      refine hS _ ?_
      rw [← h2, gt_mem hnd hp]
      exact h3 p hp)
    rwa [List.length_map] at this
  obtain ⟨w', r1, m1, g1, s1⟩ := h1.store O ha (f a + d) (by omega)
  have hg : ∀ b, gt (pt L a (f a + d)) b = adj f a d b := fun b => by
    rw [gt_pt hnd]
    unfold adj
    split
    · rfl
    · exact h2 b
  refine ⟨w', r1, g1, s1, ?_, fun hz => ⟨_, m1, hg, fun p hp => ?_⟩, fun hz ty => ?_⟩
  · rw [m1.look O ha, hg]
    simp [adj]
  · rcases List.mem_cons.1 hp with rfl | hp
    · exact hz
    · exact h3 p (List.mem_filter.1 hp).1
  · obtain ⟨w2, r2, m2, g2, s2⟩ := m1.drop O ha ty
    refine ⟨w2, r2, ⟨_, m2, fun b => ?_, fun p hp => ?_⟩, g2, s2⟩
    · rw [gt_dr (ndk_pt hnd _ _), hg]
      unfold adj
      split
      · exact hz.symm
      · rfl
    · obtain ⟨hp, hq⟩ := List.mem_filter.1 hp
      rcases List.mem_cons.1 hp with rfl | hp
      · simp at hq
      · exact h3 p (List.mem_filter.1 hp).1
/-- the sum of what a map tells over its keys -/
theorem Fm.own {w : World} {m : Nat} {f : α → Int} (h : Fm y P w m f) : ∃ (L : List (α × Int)) (es : List (Lit × Dt)), w.ownsMap P y.K Rv m L.length (.map es) ∧ es.Perm (L.map y.Et) ∧ (∀ p ∈ L, y.wf p.1) ∧ Ndk L ∧ (∀ p ∈ L, p.2 = f p.1 ∧ p.2 ≠ 0) ∧ ∀ a, f a ≠ 0 → a ∈ L.map Prod.fst := by
  obtain ⟨L, ⟨es, h1, h2, h3, h4⟩, h5, h6⟩ := h
  refine ⟨L, es, h1, h2, h3, h4, fun p hp => ⟨by rw [← h5, gt_mem h4 hp], h6 p hp⟩, fun a ha => ?_⟩
  obtain ⟨p, hp, e⟩ := gt_has (L := L) (by rw [h5]; exact ha)
  exact List.mem_map.2 ⟨p, hp, e⟩
end Go.Proofs.YtdfadcbchiogjaaGreat
