/- layer 12, numbers: what a trade does to the cash -/
import Derived.Test.YtbfnfebmmhhegaaCQ
import Derived.WalkKit
import Derived.ProofKit
import Derived.Handy
import Derived.WalkLawsBesides
import Derived.WalkSpells
import Derived.BigQuiet
import Derived.BigCall
import Derived.Deep.QuietTactic
import Derived.Deep.Light
import Derived.Deep.OwnRows
import Derived.Laws.AppendOwnNone
import Derived.Laws.Strings3
import Derived.Laws.RangeAny
import Derived.Deep.RegionWith
import Derived.Lib.BitFns
import Derived.Lib.Walk
import Derived.Lib.Strings
import Derived.Lib.OthersKept
import Derived.Deep.CutBlock
import Derived.Deep.DeepCutAuto
import Derived.Deep.LoopGhost
import Derived.Deep.RegionHeld3
import Derived.Lib.SmallJoins
import Derived.Maps.AppendAt
import Derived.Laws.IdiomStrings
import Derived.Lib.AppendZeros
import Derived.Deep.WholeRow
import Derived.Laws.BitsAllLaws
import Derived.Lib.ConvBytes
import Derived.Deep.RegionLaw
import Derived.Maps.OwnSet
import Derived.Maps.OwnOps
import Derived.Maps.RangeWalk
import Derived.Maps.Ext
import Derived.DeepKeys4
import Derived.Laws.StructEq
import Derived.Shelf.SlSortCmp.NoneTotal
import Derived.Deep.MidRow
import Derived.Laws.MakeOwn
namespace Go.Proofs.Ytbfnfebmmhhegaa
open Go.RowKit
set_option linter.unusedVariables false
set_option linter.unusedSimpArgs false
theorem get_run : ∀ (L : List Num.Bal) (es : List Num.Ent) (a : Num.Acc), Num.whyf L es = 0 → (∀ e ∈ es, e.1 ≠ a ∧ e.2.1 ≠ a) → Num.get (Num.run L es) a = Num.get L a
  | _, [], _, _, _ => rfl
  | L, e :: r, a, h, hn => by
    by_cases c : Num.flt L e = 0
    · simp only [Num.whyf, if_pos c] at h
      simp only [Num.run, if_pos c]
      rw [get_run _ r a h (fun x hx => hn x (by simp [hx])), Num.get_mv]
      have := hn e (by simp)
      rw [if_neg this.1, if_neg this.2]
      omega
    · simp only [Num.whyf, if_neg c] at h
      exact absurd h c
theorem mv_self {L : List Num.Bal} (g : Num.Good L) (f : Num.Acc) (n : Int) : Num.mv L f f n = L := by
  refine Num.get_ext (Num.srt_set (Num.srt_set g.srt _ _) _ _) g.srt (Num.nz_set (Num.nz_set g.nz _ _) _ _) g.nz (fun a => ?_)
  have := Num.get_mv L f f a n
  rw [this]
  split <;> omega
theorem run_self : ∀ {L : List Num.Bal} (g : Num.Good L) (es : List Num.Ent), (∀ e ∈ es, e.1 = e.2.1) → Num.run L es = L
  | _, _, [], _ => rfl
  | L, g, e :: r, h => by
    unfold Num.run
    split
    · have h1 := h e (by simp)
      rw [h1, mv_self g]
      exact run_self g r (fun x hx => h x (by simp [hx]))
    · rfl
theorem mvE_none {L : List Num.Bal} {xs : List Ln} (h : mvE L xs = 0) : xs.findIdx? Ln.st = none ∧ Num.whyf L (xs.map Ln.ent) = 0 := by
  unfold mvE at h
  split at h
  · cases h
  · rename_i hf; exact ⟨hf, h⟩
theorem trl_len (sel buy : Int) (xs : List Lot) (cur : ByteArray) (cash : Int) : (trl sel buy xs cur cash).length = xs.length + 1 := by simp [trl]
/-- a trade that is done -/
theorem trade_done {L : List Num.Bal} {sel buy cash : Int} {xs : List Lot} {cur : ByteArray} (h : mvE L (trl sel buy xs cur cash) = 0) : mvN L (trl sel buy xs cur cash) = (xs.length : Int) + 1 ∧ mvL L (trl sel buy xs cur cash) = Num.run L ((trl sel buy xs cur cash).map Ln.ent) := by
  obtain ⟨h1, h2⟩ := mvE_none h
  unfold mvN mvL
  rw [h1]
  simp only
  rw [Num.howf_all L _ h2, List.length_map, trl_len]
  exact ⟨by omega, if_pos h2⟩
theorem trade_same {L : List Num.Bal} (g : Num.Good L) {m cash : Int} {xs : List Lot} {cur : ByteArray} (h : mvE L (trl m m xs cur cash) = 0) : mvL L (trl m m xs cur cash) = L := by
  rw [(trade_done h).2]
  refine run_self g _ (fun e he => ?_)
  obtain ⟨x, hx, rfl⟩ := List.mem_map.1 he
  unfold trl at hx
  rcases List.mem_append.1 hx with hx | hx
  · obtain ⟨y, _, rfl⟩ := List.mem_map.1 hx; rfl
  · rw [List.mem_singleton.1 hx]; rfl
theorem trade_cash {L : List Num.Bal} {sel buy cash : Int} {xs : List Lot} {cur : ByteArray} (h : mvE L (trl sel buy xs cur cash) = 0) (hne : sel ≠ buy) (hx : ∀ x ∈ xs, x.1.toList ≠ cur.toList) : Num.get (mvL L (trl sel buy xs cur cash)) (sel, 1, cur.toList) = Num.get L (sel, 1, cur.toList) + cash ∧ Num.get (mvL L (trl sel buy xs cur cash)) (buy, 1, cur.toList) = Num.get L (buy, 1, cur.toList) - cash := by
  obtain ⟨h1, h2⟩ := mvE_none h
  rw [(trade_done h).2]
  unfold trl at h2 ⊢
  rw [List.map_append, List.map_cons, List.map_nil] at h2 ⊢
  have h3 := Num.why_left L _ _ h2
  rw [Num.run_app L _ _ h3]
  have h4 := h2
  rw [Num.whyf_app L _ _ h3] at h4
  have hr : ∀ a : Num.Acc, a.2.2 = cur.toList → Num.get (Num.run L ((xs.map (way sel 1 buy 1)).map Ln.ent)) a = Num.get L a := fun a ha => by
    refine get_run L _ a h3 (fun e he => ?_)
    obtain ⟨y, hy, rfl⟩ := List.mem_map.1 he
    obtain ⟨z, hz, rfl⟩ := List.mem_map.1 hy
    have := hx z hz
    constructor
    · intro e; apply this; rw [← ha, ← e]; rfl
    · intro e; apply this; rw [← ha, ← e]; rfl
  generalize Num.run L ((xs.map (way sel 1 buy 1)).map Ln.ent) = M at *
  have hf : Num.flt M (Ln.ent ⟨buy, 1, sel, 1, cur, cash⟩) = 0 := by
    by_cases c : Num.flt M (Ln.ent ⟨buy, 1, sel, 1, cur, cash⟩) = 0
    · exact c
    · simp only [Num.whyf, if_neg c] at h4; exact absurd h4 c
  have e1 : Num.run M [Ln.ent ⟨buy, 1, sel, 1, cur, cash⟩] = Num.mv M (buy, 1, cur.toList) (sel, 1, cur.toList) cash := by
    simp only [Num.run, if_pos hf]; rfl
  rw [e1, Num.get_mv, Num.get_mv, hr _ rfl, hr _ rfl]
  have n1 : ¬ ((buy, (1 : Int), cur.toList) : Num.Acc) = (sel, 1, cur.toList) := fun e => hne (by injection e with e _; exact e.symm)
  have n2 : ¬ ((sel, (1 : Int), cur.toList) : Num.Acc) = (buy, 1, cur.toList) := fun e => hne (by injection e)
  rw [if_neg n1, if_pos rfl, if_pos rfl, if_neg n2]
  constructor <;> omega
theorem mvE_keep {L : List Num.Bal} {xs : List Ln} (h : mvE L xs ≠ 0) : mvL L xs = L := by
  unfold mvE at h
  unfold mvL
  split
  · rfl
  · rename_i hf
    rw [hf] at h
    exact if_neg h
theorem howf_lt : ∀ (L : List Num.Bal) (es : List Num.Ent), Num.whyf L es ≠ 0 → Num.howf L es < es.length
  | _, [], h => absurd rfl h
  | L, e :: r, h => by
    by_cases c : Num.flt L e = 0
    · simp only [Num.whyf, if_pos c] at h
      simp only [Num.howf, if_pos c, List.length_cons]
      have := howf_lt _ r h
      omega
    · simp only [Num.howf, if_neg c, List.length_cons]
      omega
theorem mvN_low {L : List Num.Bal} {xs : List Ln} (h : mvE L xs ≠ 0) : mvN L xs < (xs.length : Int) ∧ 0 ≤ mvN L xs := by
  unfold mvE at h
  unfold mvN
  split
  · rename_i k hf
    have := (List.findIdx?_eq_some_iff_getElem.1 hf).1
    omega
  · rename_i hf
    rw [hf] at h
    have := howf_lt L (xs.map Ln.ent) h
    rw [List.length_map] at this
    omega
end Go.Proofs.Ytbfnfebmmhhegaa
