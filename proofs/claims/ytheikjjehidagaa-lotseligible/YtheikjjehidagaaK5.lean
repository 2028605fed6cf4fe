/- layer 17: lots that a basket takes, by the program -/
import Derived.Test.YtheikjjehidagaaRL
import Derived.Test.YtheikjjehidagaaEHJ
import Derived.Test.YtheikjjehidagaaQR
import Derived.WalkKit
import Derived.ProofKit
import Derived.Handy
import Derived.WalkLawsBesides
import Derived.WalkSpells
import Derived.BigQuiet
import Derived.BigCall
import Derived.Deep.QuietTactic
import Derived.Deep.Light
import Derived.Deep.OwnRows
import Derived.Laws.AppendOwnNone
import Derived.Laws.Strings3
import Derived.Laws.RangeAny
import Derived.Deep.RegionWith
import Derived.Lib.BitFns
import Derived.Lib.Walk
import Derived.Lib.Strings
import Derived.Lib.OthersKept
import Derived.Deep.CutBlock
import Derived.Deep.DeepCutAuto
import Derived.Deep.LoopGhost
import Derived.Deep.RegionHeld3
import Derived.Lib.SmallJoins
import Derived.Maps.AppendAt
import Derived.Laws.IdiomStrings
import Derived.Lib.AppendZeros
import Derived.Deep.WholeRow
import Derived.Laws.BitsAllLaws
import Derived.Lib.ConvBytes
import Derived.Deep.RegionLaw
import Derived.Maps.OwnSet
import Derived.Maps.OwnOps
import Derived.Maps.RangeWalk
import Derived.Maps.Ext
import Derived.DeepKeys4
import Derived.Laws.StructEq
import Derived.Deep.MidRow
import Derived.Lib.Bytealg
import Derived.Lib.AppendZerosOnto
import Derived.Laws.MakeOwn
import Derived.Deep.Upon
import Derived.Sort.KeysCollected
import Derived.Shelf.SlSortCmp.KitK
import Derived.Test.YtheikjjehidagaaK3
namespace Go.Proofs.Ytheikjjehidagaa
open Go.RowKit
set_option linter.unusedVariables false
set_option linter.unusedSimpArgs false
open H5 (It its its_len its_one FiP)
open H5.N14 (KP)
set_option maxRecDepth 100000
set_option linter.unusedSectionVars false
theorem own_grow2 {w w' : World} {B e k n : Nat} {v : Value} {cs : List Value} {row : Option Nat} (ho : w.ownsRow B e k v n cs) (hg : w.grownBy w' row) (hr : ∀ g, row = some g → some g ≠ v.ownBlock) : w'.ownsRow B e k v n cs := by
  cases row with
  | some r => exact own_grown ho hg (hr r rfl)
  | none => exact own_below ho ⟨hg.os, hg.tape, hg.output, hg.size, fun k hk => hg.block k hk (by simp)⟩
theorem own_two {w : World} {B B' e e' k k' n n' : Nat} {u v : Value} {cs cs' : List Value} (h1 : w.ownsRow B e k u n cs) (h2 : w.ownsRow B' e' k' v n' cs') (hne : e ≠ e') : ∀ g, u.ownBlock = some g → some g ≠ v.ownBlock := by
  intro g hg
  rcases h1.2 with ⟨hv, _⟩ | ⟨g', cap, cur, hv, _, hgc, _⟩
  · rw [hv] at hg; cases hg
  · rw [hv] at hg
    have e1 : g' = g := by simpa [Value.ownBlock] using hg
    subst e1
    exact H5.own_nb h2 (q := g') (x := cur) (T := e) hgc hne
/-- append of an item, with all that it keeps -/
theorem ap_itemG {B : Nat} {w : World} {v : Value} {L : List It} (h : Oi B w v L) (hB : B ≤ w.heap.size) (hl : L.length ≤ 1000000) (x : It) {W : World} (hb : Below w.heap.size w W) :
    ∃ v' w6, (Builtin.append_ #[50, 50] 50 #[v, .slice (some ⟨W.heap.size, 0, none⟩) 1 1]).run Try.prog (W.alloc (.cells (its x).toArray 47)) = .ok v' w6 ∧ Oi B w6 v' (L ++ [x]) ∧ w.grownBy w6 v.ownBlock := by
  have hO := own_below h hb
  obtain ⟨i0, hi, hz0, hz1, hz2⟩ := info_parts info47
  obtain ⟨v', w', hr, ho, hgr, _, hat⟩ := run_append_own_at (P := Try.prog) (w := W.alloc (.cells (its x).toArray 47)) B 50 50 47 i0 _ 9 96 Try.underlying50 hi hz0 hz1 hz2 rfl (by omega) v _ _ (hO.alloc _) ⟨W.heap.size, 0, none⟩ 1 1 (its x) rfl (cell_new (cs := its x)) (its_one x) (by unfold maxLen; omega) (by omega) (by have := hb.size; simp; omega)
  refine ⟨v', w', hr, ?_, grown_trans (grown_below (hb.alloc hb.size _) (Nat.le_refl _) _) hgr⟩
  show w'.ownsRow B 47 9 v' (L ++ [x]).length _
  rw [rcs_snoc, List.length_append]
  exact ho
/-- items taken, and lots that are not, in memory -/
structure ElR (B : Nat) (w0 wr : World) (u v : Value) (T : List It) (O : List Lt) : Prop where
  t : Oi B wr u T
  o : Ol B wr v O
  b : Below B w0 wr
  z : B ≤ wr.heap.size
theorem ElR.nil {w : World} : ElR w.heap.size w w (.slice none 0 0) (.slice none 0 0) [] [] := ⟨World.ownsRow_nil _ _ _ _, World.ownsRow_nil _ _ _ _, Below.refl _ _, Nat.le_refl _⟩
theorem ElR.yes {B : Nat} {w0 wr W : World} {u v : Value} {T : List It} {O : List Lt} (h : ElR B w0 wr u v T O) (hl : T.length ≤ 1000000) (x : It) (hb : Below wr.heap.size wr W) :
    ∃ u' w6, (Builtin.append_ #[50, 50] 50 #[u, .slice (some ⟨W.heap.size, 0, none⟩) 1 1]).run Try.prog (W.alloc (.cells (its x).toArray 47)) = .ok u' w6 ∧ ElR B w0 w6 u' v (T ++ [x]) O := by
  obtain ⟨u', w6, hr, ho, hg⟩ := ap_itemG h.t h.z hl x hb
  refine ⟨u', w6, hr, ho, own_grow2 h.o hg (own_two h.t h.o (by decide)), ?_, Nat.le_trans h.z hg.size⟩
  exact h.b.trans ⟨hg.os, hg.tape, hg.output, hg.size, fun k hk => hg.block k (by have := h.z; omega) (fun e => by have := (h.t.lt _ e.symm).1; omega)⟩
theorem ElR.no {B : Nat} {w0 wr W : World} {u v : Value} {T : List It} {O : List Lt} (h : ElR B w0 wr u v T O) (hl : O.length ≤ 1000000) (x : Lt) (hb : Below wr.heap.size wr W) :
    ∃ v' w6, (Builtin.append_ #[22, 22] 22 #[v, .slice (some ⟨W.heap.size, 0, none⟩) 1 1]).run Try.prog (W.alloc (.cells #[.string x.i, .int .i64 x.n] 43)) = .ok v' w6 ∧ ElR B w0 w6 u v' T (O ++ [x]) := by
  obtain ⟨v', w6, hr, hz⟩ := ap_lot h.o h.z hl x hb
  refine ⟨v', w6, hr, own_grow2 h.t hz.out.g (own_two h.o h.t (by decide)), hz.out.o, h.b.trans (hz.out.below h.o h.z), Nat.le_trans h.z hz.out.g.size⟩
/-- what is told of a lot: its item, an error, whether it fits -/
abbrev Tl : Type := Lt → It × Int × Bool
def okT (r : It × Int × Bool) : Bool := decide (r.2.1 = 0) && r.2.2
def elT (f : Tl) (L : List Lt) : List It := (L.filter fun x => okT (f x)).map fun x => (f x).1
def elO (f : Tl) (L : List Lt) : List Lt := L.filter fun x => !okT (f x)
theorem elT_yes {f : Tl} {L : List Lt} {k : Nat} (hk : k < L.length) (h : okT (f L[k]) = true) : elT f (L.take (k + 1)) = elT f (L.take k) ++ [(f L[k]).1] := by
  unfold elT
  rw [List.take_succ_eq_append_getElem hk, List.filter_append, List.map_append]
  simp [h]
theorem elT_no {f : Tl} {L : List Lt} {k : Nat} (hk : k < L.length) (h : okT (f L[k]) = false) : elT f (L.take (k + 1)) = elT f (L.take k) := by
  unfold elT
  rw [List.take_succ_eq_append_getElem hk, List.filter_append, List.map_append]
  simp [h]
theorem elO_yes {f : Tl} {L : List Lt} {k : Nat} (hk : k < L.length) (h : okT (f L[k]) = true) : elO f (L.take (k + 1)) = elO f (L.take k) := by
  unfold elO
  rw [List.take_succ_eq_append_getElem hk, List.filter_append]
  simp [h]
theorem elO_no {f : Tl} {L : List Lt} {k : Nat} (hk : k < L.length) (h : okT (f L[k]) = false) : elO f (L.take (k + 1)) = elO f (L.take k) ++ [L[k]] := by
  unfold elO
  rw [List.take_succ_eq_append_getElem hk, List.filter_append]
  simp [h]
theorem elT_len (f : Tl) (L : List Lt) : (elT f L).length ≤ L.length := by
  unfold elT
  rw [List.length_map]
  exact List.length_filter_le _ _
theorem elO_len (f : Tl) (L : List Lt) : (elO f L).length ≤ L.length := List.length_filter_le _ _
theorem el_sum (f : Tl) : ∀ L : List Lt, (elT f L).length + (elO f L).length = L.length
  | [] => rfl
  | x :: r => by
    have := el_sum f r
    unfold elT elO at *
    cases h : okT (f x) <;> simp [h] at * <;> omega
theorem elT_mem {f : Tl} {L : List Lt} {y : It} (h : y ∈ elT f L) : ∃ x ∈ L, okT (f x) = true ∧ (f x).1 = y := by
  unfold elT at h
  obtain ⟨x, hx, rfl⟩ := List.mem_map.1 h
  obtain ⟨h1, h2⟩ := List.mem_filter.1 hx
  exact ⟨x, h1, h2, rfl⟩
/-- the answer of Eligible -/
def ElP [Inhabited It] (f : Tl) (L : List Lt) (w : World) (e : Ending) (w' : World) : Prop := ∃ a1 c1 a2 c2, e = .returned (.tuple #[.slice a1 (elT f L).length c1, .slice a2 (elO f L).length c2]) ∧ Hid (Rw 9 its w' a1 (SS.rnk ltI (elT f L)) ∧ Rw 2 lcs w' a2 (elO f L) ∧ Below w.heap.size w w')
section
variable [Inhabited It]
set_option maxHeartbeats 32000000 in
theorem xelig (f : Tl) (L : List Lt) (hl : L.length ≤ 1000000) (hs : ∀ x ∈ L, x.i.size ≤ 281474976710656) (pk : Option Addr) (i0 i1 i3 i4 i5 i7 i8 : Int) (s : ByteArray) (ca ba : Option Addr) (nc cc nb bc : Nat) (d : Int) (a : Option Addr) (cap : Nat) (w : World) (h : Rw 2 lcs w a L)
    (hF : ∀ x ∈ L, ∀ W, Below w.heap.size w W → Calls Try.prog 61 #[.pointer pk, .agg #[.int .i64 i0, .int .i64 i1, .string s, .int .i64 i3, .int .i64 i4, .int .i64 i5, .slice ca nc cc, .int .i64 i7, .int .i64 i8, .slice ba nb bc], .agg #[.string x.i, .int .i64 x.n], .int .i64 d] W (FiP (f x).1 (f x).2.1 W))
    (hT : ∀ x ∈ L, (f x).2.1 = 0 → ∀ W, Below w.heap.size w W → Calls Try.prog 62 #[.agg #[.int .i64 i0, .int .i64 i1, .string s, .int .i64 i3, .int .i64 i4, .int .i64 i5, .slice ca nc cc, .int .i64 i7, .int .i64 i8, .slice ba nb bc], .agg #[.string (f x).1.a.i, .int .i64 (f x).1.a.iss, .int .i64 (f x).1.a.rat, .int .i64 (f x).1.a.mat, .string (f x).1.a.c], .int .i64 d] W (KP (.bool (f x).2.2) W))
    (hm : ∀ x ∈ L, (f x).2.1 = 0 → smI (f x).1) :
    Calls Try.prog 37 #[.pointer pk, .agg #[.int .i64 i0, .int .i64 i1, .string s, .int .i64 i3, .int .i64 i4, .int .i64 i5, .slice ca nc cc, .int .i64 i7, .int .i64 i8, .slice ba nb bc], .slice a L.length cap, .int .i64 d] w (ElP f L w) := by
  obtain ⟨w1, hw1⟩ : ∃ w1, w.alloc (.cells #[.int .i64 i0, .int .i64 i1, .string s, .int .i64 i3, .int .i64 i4, .int .i64 i5, .slice ca nc cc, .int .i64 i7, .int .i64 i8, .slice ba nb bc] 62) = w1 := ⟨_, rfl⟩
  have HX1 : Hid (Bx w1 w.heap.size #[.int .i64 i0, .int .i64 i1, .string s, .int .i64 i3, .int .i64 i4, .int .i64 i5, .slice ca nc cc, .int .i64 i7, .int .i64 i8, .slice ba nb bc] 62) := by rw [← hw1]; exact Bx.new _ _ _
  have HB1 : Hid (Below w.heap.size w w1) := by rw [← hw1]; exact below_a _ _
  have HE : Hid (Rw 2 lcs w1 a L) := h.below HB1.out
  have HF : Hid (∀ x ∈ L, ∀ W, Below w1.heap.size w1 W → Calls Try.prog 61 #[.pointer pk, .agg #[.int .i64 i0, .int .i64 i1, .string s, .int .i64 i3, .int .i64 i4, .int .i64 i5, .slice ca nc cc, .int .i64 i7, .int .i64 i8, .slice ba nb bc], .agg #[.string x.i, .int .i64 x.n], .int .i64 d] W (FiP (f x).1 (f x).2.1 W)) := fun x hx W hb => hF x hx W (HB1.out.trans (hb.mono HB1.out.size))
  have HT : Hid (∀ x ∈ L, (f x).2.1 = 0 → ∀ W, Below w1.heap.size w1 W → Calls Try.prog 62 #[.agg #[.int .i64 i0, .int .i64 i1, .string s, .int .i64 i3, .int .i64 i4, .int .i64 i5, .slice ca nc cc, .int .i64 i7, .int .i64 i8, .slice ba nb bc], .agg #[.string (f x).1.a.i, .int .i64 (f x).1.a.iss, .int .i64 (f x).1.a.rat, .int .i64 (f x).1.a.mat, .string (f x).1.a.c], .int .i64 d] W (KP (.bool (f x).2.2) W)) := fun x hx he W hb => hT x hx he W (HB1.out.trans (hb.mono HB1.out.size))
  have HSZ : Hid (∀ x ∈ L, x.i.size ≤ 281474976710656) := hs
  have HM : Hid (∀ x ∈ L, (f x).2.1 = 0 → smI (f x).1) := hm
  have HL : Hid (L.length ≤ 1000000) := hl
  have HGW : Hid (w.heap.size < w1.heap.size) := HX1.out.lt
  have hlz : (L.length : Int) ≤ 1000000 := by omega
  clear h hF hT hm hs hl
  go_enter Try.func37, Try.ntmps37
  go_upto_region 1 with fail
  try rw [hw1]
  clear hw1
  generalize hge : w.heap.size = g at *
  have HGE : Hid (w.heap.size = g) := hge
  clear hge
  go_wp2_with fail
  go_loopw [10, 11, 18] (fun u0 v0 i wr => ∃ (k : Nat) (u v : Value), k ≤ L.length ∧ u = u0 ∧ v = v0 ∧ i = .int .i64 k ∧ Hid (ElR w1.heap.size w1 wr u v (elT f (L.take k)) (elO f (L.take k))))
    (fun _ _ i _ => L.length - (intOf i).toNat)
  case atStart => exact ⟨0, _, _, Nat.zero_le _, rfl, rfl, rfl, ElR.nil⟩
  case round =>
    obtain ⟨k, u, v, hk, rfl, rfl, rfl, HR⟩ := hrel
    by_cases hkn : k < L.length
    · have hkz : (k : Int) < (L.length : Int) := by omega
      obtain ⟨blk, off, rfl, hbl, hcs⟩ := HE.out (by omega)
      have c0 : wr.cell? ⟨blk, off + k * 2, none⟩ = some (.string L[k].i) := (HR.out.b.cell (p := ⟨blk, _, none⟩) hbl).trans (hcs k hkn 0 (by omega))
      have c1 : wr.cell? ⟨blk, off + k * 2 + 1, none⟩ = some (.int .i64 L[k].n) := (HR.out.b.cell (p := ⟨blk, _, none⟩) hbl).trans (hcs k hkn 1 (by omega))
      have hmem := List.getElem_mem hkn
      have H61a : Hid (∀ W, Below w1.heap.size w1 W → Calls Try.prog 61 #[.pointer pk, .agg #[.int .i64 i0, .int .i64 i1, .string s, .int .i64 i3, .int .i64 i4, .int .i64 i5, .slice ca nc cc, .int .i64 i7, .int .i64 i8, .slice ba nb bc], .agg #[.string L[k].i, .int .i64 L[k].n], .int .i64 d] W (FiP (f L[k]).1 (f L[k]).2.1 W)) := HF.out _ hmem
      have H62a : Hid ((f L[k]).2.1 = 0 → ∀ W, Below w1.heap.size w1 W → Calls Try.prog 62 #[.agg #[.int .i64 i0, .int .i64 i1, .string s, .int .i64 i3, .int .i64 i4, .int .i64 i5, .slice ca nc cc, .int .i64 i7, .int .i64 i8, .slice ba nb bc], .agg #[.string (f L[k]).1.a.i, .int .i64 (f L[k]).1.a.iss, .int .i64 (f L[k]).1.a.rat, .int .i64 (f L[k]).1.a.mat, .string (f L[k]).1.a.c], .int .i64 d] W (KP (.bool (f L[k]).2.2) W)) := HT.out _ hmem
      have HSX : Hid (L[k].i.size ≤ 281474976710656) := HSZ.out _ hmem
      have hT6 : (elT f (L.take k)).length ≤ 1000000 := Nat.le_trans (elT_len _ _) (by have := HL.out; rw [List.length_take]; omega)
      have hO6 : (elO f (L.take k)).length ≤ 1000000 := Nat.le_trans (elO_len _ _) (by have := HL.out; rw [List.length_take]; omega)
      have HYES : Hid (okT (f L[k]) = true → ∀ W, Below wr.heap.size wr W → ∃ u' w6, (Builtin.append_ #[50, 50] 50 #[u, .slice (some ⟨W.heap.size, 0, none⟩) 1 1]).run Try.prog (W.alloc (.cells (its (f L[k]).1).toArray 47)) = .ok u' w6 ∧ Hid (ElR w1.heap.size w1 w6 u' v (elT f (L.take (k + 1))) (elO f (L.take (k + 1))))) := fun ho W hb => by
        obtain ⟨u', w6, hr, hz⟩ := HR.out.yes hT6 (f L[k]).1 hb
        refine ⟨u', w6, hr, ?_⟩
        rw [elT_yes hkn ho, elO_yes hkn ho]
        exact hz
      have HNO : Hid (okT (f L[k]) = false → ∀ W, Below wr.heap.size wr W → ∃ v' w6, (Builtin.append_ #[22, 22] 22 #[v, .slice (some ⟨W.heap.size, 0, none⟩) 1 1]).run Try.prog (W.alloc (.cells #[.string L[k].i, .int .i64 L[k].n] 43)) = .ok v' w6 ∧ Hid (ElR w1.heap.size w1 w6 u v' (elT f (L.take (k + 1))) (elO f (L.take (k + 1))))) := fun ho W hb => by
        obtain ⟨v', w6, hr, hz⟩ := HR.out.no hO6 L[k] hb
        refine ⟨v', w6, hr, ?_⟩
        rw [elT_no hkn ho, elO_no hkn ho]
        exact hz
      have HBR : Hid (Below w1.heap.size w1 wr) := HR.out.b
      clear HR hcs hmem hT6 hO6
      generalize f L[k] = r at *
      generalize L[k] = x at *
      obtain ⟨⟨l, q, ⟨ai, a1, a2, am, ac⟩, p, c⟩, E, z⟩ := r
      obtain ⟨n, m⟩ := x
      have H61 : Hid (∀ W, Below w1.heap.size w1 W → Calls Try.prog 61 #[.pointer pk, .agg #[.int .i64 i0, .int .i64 i1, .string s, .int .i64 i3, .int .i64 i4, .int .i64 i5, .slice ca nc cc, .int .i64 i7, .int .i64 i8, .slice ba nb bc], .agg #[.string n, .int .i64 m], .int .i64 d] W fun e w' => e = .returned (.tuple #[.agg #[.string l, .int .i64 q, .string ai, .int .i64 a1, .int .i64 a2, .int .i64 am, .string ac, .int .i64 p, .int .i64 c], .int .i64 E]) ∧ Hid (Below W.heap.size W w')) := fun W hb => (H61a.out W hb).mono fun e w' hh => ⟨hh.1, hh.2⟩
      have H62 : Hid (E = 0 → ∀ W, Below w1.heap.size w1 W → Calls Try.prog 62 #[.agg #[.int .i64 i0, .int .i64 i1, .string s, .int .i64 i3, .int .i64 i4, .int .i64 i5, .slice ca nc cc, .int .i64 i7, .int .i64 i8, .slice ba nb bc], .agg #[.string ai, .int .i64 a1, .int .i64 a2, .int .i64 am, .string ac], .int .i64 d] W (KP (.bool z) W)) := H62a.out
      have H63 : Hid (∀ W, Calls Try.prog 63 #[.agg #[.string n, .int .i64 m]] W fun e w' => e = .returned (.agg #[.string n, .int .i64 m]) ∧ Hid (Below W.heap.size W w')) := fun W => (xapart ⟨n, m⟩ HSX.out W).mono fun e w' hh => ⟨hh.1, hh.2⟩
      clear H61a H62a HSX
      simp only [its] at HYES
      dsimp only at c0 c1 HNO
      obtain ⟨ga, hga⟩ : ∃ g, wr.heap.size = g := ⟨_, rfl⟩
      obtain ⟨wa, hwa⟩ : ∃ wa, wr.alloc (.cells #[.string n, .int .i64 m] 43) = wa := ⟨_, rfl⟩
      have HA : Hid (Bx wa ga #[.string n, .int .i64 m] 43) := by rw [← hwa, ← hga]; exact Bx.new _ _ _
      have HBa : Hid (Below ga wr wa) := by rw [← hwa, ← hga]; exact below_a _ _
      have HXa : Hid (Bx wa g #[.int .i64 i0, .int .i64 i1, .string s, .int .i64 i3, .int .i64 i4, .int .i64 i5, .slice ca nc cc, .int .i64 i7, .int .i64 i8, .slice ba nb bc] 62) := by rw [← hwa]; exact (HX1.out.below HBR.out HGW.out).below (below_a _ _) (Nat.lt_of_lt_of_le HGW.out HBR.out.size)
      have HRs : Hid (w1.heap.size ≤ ga) := by rw [← hga]; exact HBR.out.size
      have HGA : Hid (wr.heap.size = ga) := hga
      go_upto_region 6 with fail
      try rw [hwa]
      try rw [hga]
      clear hwa hga c0 c1
      have d0 : wa.cell? ⟨g, 0, none⟩ = some (.int .i64 i0) := HXa.out.cell 0
      have d1 : wa.cell? ⟨g, 1, none⟩ = some (.int .i64 i1) := HXa.out.cell 1
      have d2 : wa.cell? ⟨g, 2, none⟩ = some (.string s) := HXa.out.cell 2
      have d3 : wa.cell? ⟨g, 3, none⟩ = some (.int .i64 i3) := HXa.out.cell 3
      have d4 : wa.cell? ⟨g, 4, none⟩ = some (.int .i64 i4) := HXa.out.cell 4
      have d5 : wa.cell? ⟨g, 5, none⟩ = some (.int .i64 i5) := HXa.out.cell 5
      have d6 : wa.cell? ⟨g, 6, none⟩ = some (.slice ca nc cc) := HXa.out.cell 6
      have d7 : wa.cell? ⟨g, 7, none⟩ = some (.int .i64 i7) := HXa.out.cell 7
      have d8 : wa.cell? ⟨g, 8, none⟩ = some (.int .i64 i8) := HXa.out.cell 8
      have d9 : wa.cell? ⟨g, 9, none⟩ = some (.slice ba nb bc) := HXa.out.cell 9
      have e0 : wa.cell? ⟨ga, 0, none⟩ = some (.string n) := HA.out.cell 0
      have e1 : wa.cell? ⟨ga, 1, none⟩ = some (.int .i64 m) := HA.out.cell 1
      go_upto_region 7 with (go_at_call 61; refine (H61.out wa (HBR.out.trans (HBa.out.mono HRs.out))).mono ?_; rintro e w2 ⟨rfl, HB2⟩)
      clear d0 d1 d2 d3 d4 d5 d6 d7 d8 d9 e0 e1 H61
      obtain ⟨gb, hgb⟩ : ∃ g, w2.heap.size = g := ⟨_, rfl⟩
      obtain ⟨wb, hwb⟩ : ∃ wb, w2.alloc (.cells #[.string l, .int .i64 q, .string ai, .int .i64 a1, .int .i64 a2, .int .i64 am, .string ac, .int .i64 p, .int .i64 c] 47) = wb := ⟨_, rfl⟩
      have HI : Hid (Bx wb gb #[.string l, .int .i64 q, .string ai, .int .i64 a1, .int .i64 a2, .int .i64 am, .string ac, .int .i64 p, .int .i64 c] 47) := by rw [← hwb, ← hgb]; exact Bx.new _ _ _
      have HXb : Hid (Bx wb g #[.int .i64 i0, .int .i64 i1, .string s, .int .i64 i3, .int .i64 i4, .int .i64 i5, .slice ca nc cc, .int .i64 i7, .int .i64 i8, .slice ba nb bc] 62) := by rw [← hwb]; exact (HXa.out.below HB2.out HXa.out.lt).below (below_a _ _) (Nat.lt_of_lt_of_le HXa.out.lt HB2.out.size)
      have HAb : Hid (Bx wb ga #[.string n, .int .i64 m] 43) := by rw [← hwb]; exact (HA.out.below HB2.out HA.out.lt).below (below_a _ _) (Nat.lt_of_lt_of_le HA.out.lt HB2.out.size)
      have HBb : Hid (Below wr.heap.size wr wb) := by
        rw [← hwb, HGA.out]
        have h1 : ga ≤ wa.heap.size := by have := HBa.out.size; rw [HGA.out] at this; exact this
        exact HBa.out.trans ((HB2.out.trans ((below_a _ _).mono HB2.out.size)).mono h1)
      try rw [hwb]
      try rw [hgb]
      clear hwb hgb HB2 HA HXa HBa
      by_cases hE : E = 0
      · subst hE
        have d0 : wb.cell? ⟨g, 0, none⟩ = some (.int .i64 i0) := HXb.out.cell 0
        have d1 : wb.cell? ⟨g, 1, none⟩ = some (.int .i64 i1) := HXb.out.cell 1
        have d2 : wb.cell? ⟨g, 2, none⟩ = some (.string s) := HXb.out.cell 2
        have d3 : wb.cell? ⟨g, 3, none⟩ = some (.int .i64 i3) := HXb.out.cell 3
        have d4 : wb.cell? ⟨g, 4, none⟩ = some (.int .i64 i4) := HXb.out.cell 4
        have d5 : wb.cell? ⟨g, 5, none⟩ = some (.int .i64 i5) := HXb.out.cell 5
        have d6 : wb.cell? ⟨g, 6, none⟩ = some (.slice ca nc cc) := HXb.out.cell 6
        have d7 : wb.cell? ⟨g, 7, none⟩ = some (.int .i64 i7) := HXb.out.cell 7
        have d8 : wb.cell? ⟨g, 8, none⟩ = some (.int .i64 i8) := HXb.out.cell 8
        have d9 : wb.cell? ⟨g, 9, none⟩ = some (.slice ba nb bc) := HXb.out.cell 9
        have f0 : wb.cell? ⟨gb, 0, none⟩ = some (.string l) := HI.out.cell 0
        have f1 : wb.cell? ⟨gb, 1, none⟩ = some (.int .i64 q) := HI.out.cell 1
        have f2 : wb.cell? ⟨gb, 2, none⟩ = some (.string ai) := HI.out.cell 2
        have f3 : wb.cell? ⟨gb, 3, none⟩ = some (.int .i64 a1) := HI.out.cell 3
        have f4 : wb.cell? ⟨gb, 4, none⟩ = some (.int .i64 a2) := HI.out.cell 4
        have f5 : wb.cell? ⟨gb, 5, none⟩ = some (.int .i64 am) := HI.out.cell 5
        have f6 : wb.cell? ⟨gb, 6, none⟩ = some (.string ac) := HI.out.cell 6
        have f7 : wb.cell? ⟨gb, 7, none⟩ = some (.int .i64 p) := HI.out.cell 7
        have f8 : wb.cell? ⟨gb, 8, none⟩ = some (.int .i64 c) := HI.out.cell 8
        have H62b := hid_in (H62.out rfl wb (HBR.out.trans (HBb.out.mono HBR.out.size)))
        clear H62
        cases z with
        | true =>
          go_upto_region 8 with (go_at_call 62; refine H62b.out.mono ?_; clear H62b; rintro e w3 ⟨rfl, HB3⟩)
          clear d0 d1 d2 d3 d4 d5 d6 d7 d8 d9 f0 f1 f2 f3 f4 f5 f6 f7 f8
          obtain ⟨u', w6, hr6, HZ⟩ := HYES.out rfl w3 (HBb.out.trans (HB3.out.mono HBb.out.size))
          have HI3 := hid_in (HI.out.below HB3.out HI.out.lt)
          have f0 : w3.cell? ⟨gb, 0, none⟩ = some (.string l) := HI3.out.cell 0
          have f1 : w3.cell? ⟨gb, 1, none⟩ = some (.int .i64 q) := HI3.out.cell 1
          have f2 : w3.cell? ⟨gb, 2, none⟩ = some (.string ai) := HI3.out.cell 2
          have f3 : w3.cell? ⟨gb, 3, none⟩ = some (.int .i64 a1) := HI3.out.cell 3
          have f4 : w3.cell? ⟨gb, 4, none⟩ = some (.int .i64 a2) := HI3.out.cell 4
          have f5 : w3.cell? ⟨gb, 5, none⟩ = some (.int .i64 am) := HI3.out.cell 5
          have f6 : w3.cell? ⟨gb, 6, none⟩ = some (.string ac) := HI3.out.cell 6
          have f7 : w3.cell? ⟨gb, 7, none⟩ = some (.int .i64 p) := HI3.out.cell 7
          have f8 : w3.cell? ⟨gb, 8, none⟩ = some (.int .i64 c) := HI3.out.cell 8
          clear HI3 HI HXb HAb HBb HB3 HYES HNO
          go_wp2_with (at_builtin; refine Lib.wpList_append_run _ rfl _ _ 50 50 rfl _ _ rfl rfl _ w6 hr6 ?_)
          go_roundw
          case rel => exact ⟨k + 1, u', v, by omega, rfl, rfl, by simp, HZ⟩
          case measure => simp [intOf]; omega
        | false =>
          go_upto_region 9 with (go_at_call 62; refine H62b.out.mono ?_; clear H62b; rintro e w3 ⟨rfl, HB3⟩)
          clear d0 d1 d2 d3 d4 d5 d6 d7 d8 d9 f0 f1 f2 f3 f4 f5 f6 f7 f8
          have HN3 : Hid (∀ W, Below w3.heap.size w3 W → ∃ v' w6, (Builtin.append_ #[22, 22] 22 #[v, .slice (some ⟨W.heap.size, 0, none⟩) 1 1]).run Try.prog (W.alloc (.cells #[.string n, .int .i64 m] 43)) = .ok v' w6 ∧ Hid (ElR w1.heap.size w1 w6 u v' (elT f (L.take (k + 1))) (elO f (L.take (k + 1))))) := fun W hb => HNO.out rfl W ((HBb.out.trans (HB3.out.mono HBb.out.size)).trans (hb.mono (HBb.out.trans (HB3.out.mono HBb.out.size)).size))
          have HA3 := hid_in (HAb.out.below HB3.out HAb.out.lt)
          have e0 : w3.cell? ⟨ga, 0, none⟩ = some (.string n) := HA3.out.cell 0
          have e1 : w3.cell? ⟨ga, 1, none⟩ = some (.int .i64 m) := HA3.out.cell 1
          clear HA3 HI HXb HAb HBb HB3 HYES HNO
          go_wp2_with (first | (go_at_call 63; refine (H63.out w3).mono ?_; clear H63; rintro e w4 ⟨rfl, HB4⟩; obtain ⟨v', w6, hr6, HZ⟩ := HN3.out w4 HB4.out) | (at_builtin; refine Lib.wpList_append_run _ rfl _ _ 22 22 rfl _ _ rfl rfl _ w6 hr6 ?_))
          go_roundw
          case rel => exact ⟨k + 1, u, v', by omega, rfl, rfl, by simp, HZ⟩
          case measure => simp [intOf]; omega
      · have hEb : (E == 0) = false := by simp [hE]
        have hok : okT ((⟨l, q, ⟨ai, a1, a2, am, ac⟩, p, c⟩ : It), E, z) = false := by unfold okT; simp [hE]
        have HN3 := hid_in (HNO.out hok)
        clear hok hE
        have e0 : wb.cell? ⟨ga, 0, none⟩ = some (.string n) := HAb.out.cell 0
        have e1 : wb.cell? ⟨ga, 1, none⟩ = some (.int .i64 m) := HAb.out.cell 1
        clear H62 HI HXb HAb HYES HNO
        go_wp2_with (first | (go_at_call 63; refine (H63.out wb).mono ?_; clear H63; rintro e w4 ⟨rfl, HB4⟩; obtain ⟨v', w6, hr6, HZ⟩ := HN3.out w4 (HBb.out.trans (HB4.out.mono HBb.out.size))) | (at_builtin; refine Lib.wpList_append_run _ rfl _ _ 22 22 rfl _ _ rfl rfl _ w6 hr6 ?_))
        go_roundw
        case rel => exact ⟨k + 1, u, v', by omega, rfl, rfl, by simp, HZ⟩
        case measure => simp [intOf]; omega
    · have hkz : ¬ (k : Int) < (L.length : Int) := by omega
      have hR : ElR w1.heap.size w1 wr u v (elT f L) (elO f L) := by
        have := HR.out
        rwa [List.take_of_length_le (by omega)] at this
      obtain ⟨a', cap', rfl, _, hr⟩ := own_rw its_len hR.t rfl
      obtain ⟨a2, cap2, rfl, _, hr2⟩ := hR.o.read
      have HC : Hid (Calls Try.prog 30 #[.slice a' (elT f L).length cap'] wr fun x w' => ∃ a3 c3, x = .returned (.slice a3 (elT f L).length c3) ∧ Hid (ElP f L w (.returned (.tuple #[.slice a3 (elT f L).length c3, .slice a2 (elO f L).length cap2])) w')) := (xrankl (elT f L) (Nat.le_trans (elT_len f L) HL.out) (fun y hy => by
        obtain ⟨x, hx, ho, rfl⟩ := elT_mem hy
        have h0 : (f x).2.1 = 0 := by
          unfold okT at ho
          simp at ho
          exact ho.1
        exact HM.out x hx h0) a' cap' wr hr).mono fun x w' hh => by
        obtain ⟨a3, c3, rfl, HZ⟩ := hh
        have hb1 := hR.b.trans (HZ.out.2.mono hR.z)
        exact ⟨a3, c3, rfl, a3, c3, a2, cap2, rfl, HZ.out.1, hr2.below HZ.out.2, by rw [HGE.out]; exact HB1.out.trans (hb1.mono (Nat.le_of_lt HGW.out))⟩
      clear HR hR hr hr2
      generalize (elT f L).length = n1 at *
      generalize (elO f L).length = n2 at *
      go_wp2_with (go_at_call 30; refine HC.out.mono ?_; clear HC; rintro x w2 ⟨a3, c3, rfl, HZ⟩)
      go_ret2
      exact HZ.out
end
end Go.Proofs.Ytheikjjehidagaa

/- layer 17: lots that a basket takes, by the document -/
namespace Go.Proofs.Ytheikjjehidagaa
open Go.RowKit
set_option linter.unusedVariables false
set_option linter.unusedSimpArgs false
open H5 (It its its_len its_one FiP)
open H5.N14 (KP)
set_option maxRecDepth 100000
set_option linter.unusedSectionVars false
theorem ow_store {P : Program} {o : Oper} {a : Act} {K : Act → World → Prop} {Q : Exit → Act → World → Prop} (w w' : World) (t : TypeId) (x y : Operand) (ho : o.op = .store t x y) (vx vy : Value) (hx : a.eval x = vx) (hy : a.eval y = vy) (hr : (Instr.storeAt t vx vy).run P w = .ok () w') (h : K (a.put o.dst undef) w') : Oper.wp P o a w K Q := by
  unfold Oper.wp execOp
  simp only [ho, hx, hy, Sem.run_bind, Sem.run_pure, Result.andThen_ok, hr]
  exact h
theorem storeT {T n : Nat} (w : World) (g : Nat) (old M : Array Value) (hi : (Try.prog.info? T).map (·.size) = some n) (hg : Bx w g old T) (ho : old.size = n) (hs : M.size = n) (h1 : M.all (·.oneCell') = true) : (Instr.storeAt T (.pointer (some ⟨g, 0, none⟩)) (.agg M)).run Try.prog w = .ok () (w.setRow g M) := by
  have h := run_storeVar_row (P := Try.prog) w g T T old M hg (by rw [hs]; exact hi) (by rw [ho, hs]) h1
  simp only [Instr.storeAt, Instr.sureAddr, asAddr, Sem.run_bind, Sem.run_pure, Result.andThen_ok]
  exact h
theorem sinfo87 : (Try.prog.info? 87).map (·.size) = some 9 := by kernel_rfl
theorem Bx.set {w : World} {b : Nat} {cs ds : Array Value} {T : Nat} (h : Bx w b cs T) : Bx (w.setRow b ds) b ds T := setRow_heap w b _ _ T (0, 0) h
theorem below_setRow2 {B : Nat} {w w' : World} {g : Nat} {M : Array Value} (h : Below B w w') (hg : B ≤ g) : Below B w (w'.setRow g M) :=
  ⟨h.os, h.tape, h.output, Nat.le_trans h.size (Nat.le_of_eq (by simp [World.setRow])), fun k hk => (setRow_other w' g k M (by omega)).trans (h.block k hk)⟩
theorem load62 (W : World) (g : Nat) {v0 v1 v2 v3 v4 v5 v6 v7 v8 v9 : Value} (h : Bx W g #[v0, v1, v2, v3, v4, v5, v6, v7, v8, v9] 62) : (Instr.loadAt 62 (.pointer (some ⟨g, 0, none⟩))).run Try.prog W = .ok (.agg #[v0, v1, v2, v3, v4, v5, v6, v7, v8, v9]) W := by
  have d0 : W.cell? ⟨g, 0, none⟩ = some v0 := h.cell 0
  have d1 : W.cell? ⟨g, 1, none⟩ = some v1 := h.cell 1
  have d2 : W.cell? ⟨g, 2, none⟩ = some v2 := h.cell 2
  have d3 : W.cell? ⟨g, 3, none⟩ = some v3 := h.cell 3
  have d4 : W.cell? ⟨g, 4, none⟩ = some v4 := h.cell 4
  have d5 : W.cell? ⟨g, 5, none⟩ = some v5 := h.cell 5
  have d6 : W.cell? ⟨g, 6, none⟩ = some v6 := h.cell 6
  have d7 : W.cell? ⟨g, 7, none⟩ = some v7 := h.cell 7
  have d8 : W.cell? ⟨g, 8, none⟩ = some v8 := h.cell 8
  have d9 : W.cell? ⟨g, 9, none⟩ = some v9 := h.cell 9
  go_simp
theorem load43r (W : World) (b p : Nat) {v0 v1 : Value} (c0 : W.cell? ⟨b, p, none⟩ = some v0) (c1 : W.cell? ⟨b, p + 1, none⟩ = some v1) : (Instr.loadAt 43 (.pointer (some ⟨b, p, none⟩))).run Try.prog W = .ok (.agg #[v0, v1]) W := by
  go_simp
/-- append of an item of the document's, with all that it keeps -/
theorem ap_it1G {B : Nat} {w : World} {v : Value} {L : List It} (h : Or B w v L) (hB : B ≤ w.heap.size) (hl : L.length ≤ 1000000) (x : It) {W : World} (hb : Below w.heap.size w W) :
    ∃ v' w6, (Builtin.append_ #[40, 40] 40 #[v, .slice (some ⟨W.heap.size, 0, none⟩) 1 1]).run Try.prog (W.alloc (.cells (its x).toArray 87)) = .ok v' w6 ∧ Or B w6 v' (L ++ [x]) ∧ w.grownBy w6 v.ownBlock := by
  have hO := own_below h hb
  obtain ⟨i0, hi, hz0, hz1, hz2⟩ := info_parts info87
  obtain ⟨v', w', hr, ho, hgr, _, hat⟩ := run_append_own_at (P := Try.prog) (w := W.alloc (.cells (its x).toArray 87)) B 40 40 87 i0 _ 9 96 Try.underlying40 hi hz0 hz1 hz2 rfl (by omega) v _ _ (hO.alloc _) ⟨W.heap.size, 0, none⟩ 1 1 (its x) rfl (cell_new (cs := its x)) (its_one x) (by unfold maxLen; omega) (by omega) (by have := hb.size; simp; omega)
  refine ⟨v', w', hr, ?_, grown_trans (grown_below (hb.alloc hb.size _) (Nat.le_refl _) _) hgr⟩
  show w'.ownsRow B 87 9 v' (L ++ [x]).length _
  rw [rcs_snoc, List.length_append]
  exact ho
structure ElS (B : Nat) (w0 wr : World) (u v : Value) (T : List It) (O : List Lt) : Prop where
  t : Or B wr u T
  o : Ol B wr v O
  b : Below B w0 wr
  z : B ≤ wr.heap.size
theorem ElS.nil {w : World} : ElS w.heap.size w w (.slice none 0 0) (.slice none 0 0) [] [] := ⟨World.ownsRow_nil _ _ _ _, World.ownsRow_nil _ _ _ _, Below.refl _ _, Nat.le_refl _⟩
theorem ElS.yes {B : Nat} {w0 wr W : World} {u v : Value} {T : List It} {O : List Lt} (h : ElS B w0 wr u v T O) (hl : T.length ≤ 1000000) (x : It) (hb : Below wr.heap.size wr W) :
    ∃ u' w6, (Builtin.append_ #[40, 40] 40 #[u, .slice (some ⟨W.heap.size, 0, none⟩) 1 1]).run Try.prog (W.alloc (.cells (its x).toArray 87)) = .ok u' w6 ∧ ElS B w0 w6 u' v (T ++ [x]) O := by
  obtain ⟨u', w6, hr, ho, hg⟩ := ap_it1G h.t h.z hl x hb
  refine ⟨u', w6, hr, ho, own_grow2 h.o hg (own_two h.t h.o (by decide)), ?_, Nat.le_trans h.z hg.size⟩
  exact h.b.trans ⟨hg.os, hg.tape, hg.output, hg.size, fun k hk => hg.block k (by have := h.z; omega) (fun e => by have := (h.t.lt _ e.symm).1; omega)⟩
theorem ElS.no {B : Nat} {w0 wr W : World} {u v : Value} {T : List It} {O : List Lt} (h : ElS B w0 wr u v T O) (hl : O.length ≤ 1000000) (x : Lt) (hb : Below wr.heap.size wr W) :
    ∃ v' w6, (Builtin.append_ #[22, 22] 22 #[v, .slice (some ⟨W.heap.size, 0, none⟩) 1 1]).run Try.prog (W.alloc (.cells #[.string x.i, .int .i64 x.n] 43)) = .ok v' w6 ∧ ElS B w0 w6 u v' T (O ++ [x]) := by
  obtain ⟨v', w6, hr, hz⟩ := ap_lot h.o h.z hl x hb
  refine ⟨v', w6, hr, own_grow2 h.t hz.out.g (own_two h.o h.t (by decide)), hz.out.o, h.b.trans (hz.out.below h.o h.z), Nat.le_trans h.z hz.out.g.size⟩
section
variable [Inhabited It]
set_option maxHeartbeats 32000000 in
theorem relig (f : Tl) (L : List Lt) (hl : L.length ≤ 1000) (al : Option Addr) (nl cl : Nat) (i0 i1 i3 i4 i5 i7 i8 : Int) (s : ByteArray) (ca ba : Option Addr) (nc cc nb bc : Nat) (d : Int) (a : Option Addr) (cap : Nat) (w : World) (h : Rw 2 lcs w a L)
    (hF : ∀ x ∈ L, ∀ W, Below w.heap.size w W → Calls Try.prog 64 #[.slice al nl cl, .agg #[.int .i64 i0, .int .i64 i1, .string s, .int .i64 i3, .int .i64 i4, .int .i64 i5, .slice ca nc cc, .int .i64 i7, .int .i64 i8, .slice ba nb bc], .agg #[.string x.i, .int .i64 x.n], .int .i64 d] W (FiP (f x).1 (f x).2.1 W))
    (hT : ∀ x ∈ L, (f x).2.1 = 0 → ∃ y : Int, (y == 0) = (f x).2.2 ∧ ∀ W, Below w.heap.size w W → Calls Try.prog 65 #[.agg #[.int .i64 i0, .int .i64 i1, .string s, .int .i64 i3, .int .i64 i4, .int .i64 i5, .slice ca nc cc, .int .i64 i7, .int .i64 i8, .slice ba nb bc], .agg #[.string (f x).1.a.i, .int .i64 (f x).1.a.iss, .int .i64 (f x).1.a.rat, .int .i64 (f x).1.a.mat, .string (f x).1.a.c], .int .i64 d] W (KP (.int .i64 y) W)) :
    Calls Try.prog 38 #[.slice al nl cl, .agg #[.int .i64 i0, .int .i64 i1, .string s, .int .i64 i3, .int .i64 i4, .int .i64 i5, .slice ca nc cc, .int .i64 i7, .int .i64 i8, .slice ba nb bc], .slice a L.length cap, .int .i64 d] w (ElP f L w) := by
  obtain ⟨w1, hw1⟩ : ∃ w1, w.alloc (.cells #[.int .i64 i0, .int .i64 i1, .string s, .int .i64 i3, .int .i64 i4, .int .i64 i5, .slice ca nc cc, .int .i64 i7, .int .i64 i8, .slice ba nb bc] 62) = w1 := ⟨_, rfl⟩
  have HX1 : Hid (Bx w1 w.heap.size #[.int .i64 i0, .int .i64 i1, .string s, .int .i64 i3, .int .i64 i4, .int .i64 i5, .slice ca nc cc, .int .i64 i7, .int .i64 i8, .slice ba nb bc] 62) := by rw [← hw1]; exact Bx.new _ _ _
  have HB1 : Hid (Below w.heap.size w w1) := by rw [← hw1]; exact below_a _ _
  have HE : Hid (Rw 2 lcs w1 a L) := h.below HB1.out
  have HF : Hid (∀ x ∈ L, ∀ W, Below w1.heap.size w1 W → Calls Try.prog 64 #[.slice al nl cl, .agg #[.int .i64 i0, .int .i64 i1, .string s, .int .i64 i3, .int .i64 i4, .int .i64 i5, .slice ca nc cc, .int .i64 i7, .int .i64 i8, .slice ba nb bc], .agg #[.string x.i, .int .i64 x.n], .int .i64 d] W (FiP (f x).1 (f x).2.1 W)) := fun x hx W hb => hF x hx W (HB1.out.trans (hb.mono HB1.out.size))
  have HT : Hid (∀ x ∈ L, (f x).2.1 = 0 → ∃ y : Int, (y == 0) = (f x).2.2 ∧ ∀ W, Below w1.heap.size w1 W → Calls Try.prog 65 #[.agg #[.int .i64 i0, .int .i64 i1, .string s, .int .i64 i3, .int .i64 i4, .int .i64 i5, .slice ca nc cc, .int .i64 i7, .int .i64 i8, .slice ba nb bc], .agg #[.string (f x).1.a.i, .int .i64 (f x).1.a.iss, .int .i64 (f x).1.a.rat, .int .i64 (f x).1.a.mat, .string (f x).1.a.c], .int .i64 d] W (KP (.int .i64 y) W)) := fun x hx he => by
    obtain ⟨y, hy, hc⟩ := hT x hx he
    exact ⟨y, hy, fun W hb => hc W (HB1.out.trans (hb.mono HB1.out.size))⟩
  have HL : Hid (L.length ≤ 1000) := hl
  have HGW : Hid (w.heap.size < w1.heap.size) := HX1.out.lt
  have hlz : (L.length : Int) ≤ 1000 := by omega
  clear h hF hT hl
  go_enter Try.func38, Try.ntmps38
  go_upto_region 1 with fail
  try rw [hw1]
  clear hw1
  generalize hge : w.heap.size = g at *
  have HGE : Hid (w.heap.size = g) := hge
  clear hge
  go_wp2_with fail
  go_loopw [10, 11, 12] (fun u0 v0 i wr => ∃ (k : Nat) (u v : Value), k ≤ L.length ∧ u = u0 ∧ v = v0 ∧ i = .int .i64 k ∧ Hid (ElS w1.heap.size w1 wr u v (elT f (L.take k)) (elO f (L.take k))))
    (fun _ _ i _ => L.length - (intOf i).toNat)
  case atStart => exact ⟨0, _, _, Nat.zero_le _, rfl, rfl, rfl, ElS.nil⟩
  case round =>
    obtain ⟨k, u, v, hk, rfl, rfl, rfl, HR⟩ := hrel
    by_cases hkn : k < L.length
    · have hkz : (k : Int) < (L.length : Int) := by omega
      obtain ⟨blk, off, rfl, hbl, hcs⟩ := HE.out (by omega)
      have hmem := List.getElem_mem hkn
      have H64a : Hid (∀ W, Below w1.heap.size w1 W → Calls Try.prog 64 #[.slice al nl cl, .agg #[.int .i64 i0, .int .i64 i1, .string s, .int .i64 i3, .int .i64 i4, .int .i64 i5, .slice ca nc cc, .int .i64 i7, .int .i64 i8, .slice ba nb bc], .agg #[.string L[k].i, .int .i64 L[k].n], .int .i64 d] W (FiP (f L[k]).1 (f L[k]).2.1 W)) := HF.out _ hmem
      have H65a : Hid ((f L[k]).2.1 = 0 → ∃ y : Int, (y == 0) = (f L[k]).2.2 ∧ ∀ W, Below w1.heap.size w1 W → Calls Try.prog 65 #[.agg #[.int .i64 i0, .int .i64 i1, .string s, .int .i64 i3, .int .i64 i4, .int .i64 i5, .slice ca nc cc, .int .i64 i7, .int .i64 i8, .slice ba nb bc], .agg #[.string (f L[k]).1.a.i, .int .i64 (f L[k]).1.a.iss, .int .i64 (f L[k]).1.a.rat, .int .i64 (f L[k]).1.a.mat, .string (f L[k]).1.a.c], .int .i64 d] W (KP (.int .i64 y) W)) := HT.out _ hmem
      have hT6 : (elT f (L.take k)).length ≤ 1000000 := Nat.le_trans (elT_len _ _) (by have := HL.out; rw [List.length_take]; omega)
      have hO6 : (elO f (L.take k)).length ≤ 1000000 := Nat.le_trans (elO_len _ _) (by have := HL.out; rw [List.length_take]; omega)
      have HYES : Hid (okT (f L[k]) = true → ∀ W, Below wr.heap.size wr W → ∃ u' w6, (Builtin.append_ #[40, 40] 40 #[u, .slice (some ⟨W.heap.size, 0, none⟩) 1 1]).run Try.prog (W.alloc (.cells (its (f L[k]).1).toArray 87)) = .ok u' w6 ∧ Hid (ElS w1.heap.size w1 w6 u' v (elT f (L.take (k + 1))) (elO f (L.take (k + 1))))) := fun ho W hb => by
        obtain ⟨u', w6, hr, hz⟩ := HR.out.yes hT6 (f L[k]).1 hb
        refine ⟨u', w6, hr, ?_⟩
        rw [elT_yes hkn ho, elO_yes hkn ho]
        exact hz
      have HNO : Hid (okT (f L[k]) = false → ∀ W, Below wr.heap.size wr W → ∃ v' w6, (Builtin.append_ #[22, 22] 22 #[v, .slice (some ⟨W.heap.size, 0, none⟩) 1 1]).run Try.prog (W.alloc (.cells #[.string L[k].i, .int .i64 L[k].n] 43)) = .ok v' w6 ∧ Hid (ElS w1.heap.size w1 w6 u v' (elT f (L.take (k + 1))) (elO f (L.take (k + 1))))) := fun ho W hb => by
        obtain ⟨v', w6, hr, hz⟩ := HR.out.no hO6 L[k] hb
        refine ⟨v', w6, hr, ?_⟩
        rw [elT_no hkn ho, elO_no hkn ho]
        exact hz
      have HBR : Hid (Below w1.heap.size w1 wr) := HR.out.b
      have L43a : Hid (∀ W, Below wr.heap.size wr W → W.cell? ⟨blk, off + k * 2, none⟩ = some (.string L[k].i) ∧ W.cell? ⟨blk, off + k * 2 + 1, none⟩ = some (.int .i64 L[k].n)) := fun W hW => ⟨((HBR.out.trans (hW.mono HBR.out.size)).cell (p := ⟨blk, _, none⟩) hbl).trans (hcs k hkn 0 (by omega)), ((HBR.out.trans (hW.mono HBR.out.size)).cell (p := ⟨blk, _, none⟩) hbl).trans (hcs k hkn 1 (by omega))⟩
      have L62 : Hid (∀ W, Below wr.heap.size wr W → (Instr.loadAt 62 (.pointer (some ⟨g, 0, none⟩))).run Try.prog W = .ok (.agg #[.int .i64 i0, .int .i64 i1, .string s, .int .i64 i3, .int .i64 i4, .int .i64 i5, .slice ca nc cc, .int .i64 i7, .int .i64 i8, .slice ba nb bc]) W) := fun W hW => load62 W g ((HX1.out.below HBR.out HGW.out).below hW (Nat.lt_of_lt_of_le HGW.out HBR.out.size))
      clear HR hcs hmem hT6 hO6
      generalize f L[k] = r at *
      generalize L[k] = x at *
      obtain ⟨⟨l, q, ⟨ai, a1, a2, am, ac⟩, p, c⟩, E, z⟩ := r
      obtain ⟨n, m⟩ := x
      have H64 : Hid (∀ W, Below wr.heap.size wr W → Calls Try.prog 64 #[.slice al nl cl, .agg #[.int .i64 i0, .int .i64 i1, .string s, .int .i64 i3, .int .i64 i4, .int .i64 i5, .slice ca nc cc, .int .i64 i7, .int .i64 i8, .slice ba nb bc], .agg #[.string n, .int .i64 m], .int .i64 d] W fun e w' => e = .returned (.tuple #[.agg #[.string l, .int .i64 q, .string ai, .int .i64 a1, .int .i64 a2, .int .i64 am, .string ac, .int .i64 p, .int .i64 c], .int .i64 E]) ∧ Hid (Below W.heap.size W w')) := fun W hb => (H64a.out W (HBR.out.trans (hb.mono HBR.out.size))).mono fun e w' hh => ⟨hh.1, hh.2⟩
      have H65 : Hid (E = 0 → ∃ y : Int, (y == 0) = z ∧ ∀ W, Below w1.heap.size w1 W → Calls Try.prog 65 #[.agg #[.int .i64 i0, .int .i64 i1, .string s, .int .i64 i3, .int .i64 i4, .int .i64 i5, .slice ca nc cc, .int .i64 i7, .int .i64 i8, .slice ba nb bc], .agg #[.string ai, .int .i64 a1, .int .i64 a2, .int .i64 am, .string ac], .int .i64 d] W (KP (.int .i64 y) W)) := H65a.out
      have L43c : Hid (∀ W, Below wr.heap.size wr W → W.cell? ⟨blk, off + k * 2, none⟩ = some (.string n) ∧ W.cell? ⟨blk, off + k * 2 + 1, none⟩ = some (.int .i64 m)) := L43a.out
      have L43 : Hid (∀ W, Below wr.heap.size wr W → (Instr.loadAt 43 (.pointer (some ⟨blk, off + k * 2, none⟩))).run Try.prog W = .ok (.agg #[.string n, .int .i64 m]) W) := fun W hW => load43r W blk (off + k * 2) (L43c.out W hW).1 (L43c.out W hW).2
      clear H64a H65a L43a
      simp only [its] at HYES
      dsimp only at HNO
      go_upto_region 6 with fail
      go_cut [13, 14] (fun v13 v14 wx => v14 = .int .i64 E ∧ ∃ gb, v13 = .pointer (some ⟨gb, 0, none⟩) ∧ Hid (Bx wx gb #[.string l, .int .i64 q, .string ai, .int .i64 a1, .int .i64 a2, .int .i64 am, .string ac, .int .i64 p, .int .i64 c] 87 ∧ Below wr.heap.size wr wx ∧ wr.heap.size ≤ gb))
      case first =>
        refine wp_region_held (S := fun W => Below wr.heap.size wr W) (by kernel_rfl) ?_
        change wpAnyH _ _ _ _ _ 14 #[false, false, false, false, false, false, false, false, false, false, false, false, false, false] _ wr.drew
        have hS0 : Below wr.heap.size wr wr.drew := below_dr wr
        refine takeR (fuel := 13) (i := 0) (v := .slice al nl cl) rfl (by kernel_rfl) (by kernel_rfl) (by kernel_rfl) (fun _ _ _ h => h) (Or.inl ⟨rfl, fun W hW => by go_simp⟩) hS0 ?_
        simp only [Act.put, List.setIfInBounds_toArray, List.set_cons_zero, List.set_cons_succ]
        refine takeR (fuel := 12) (i := 1) (v := .agg #[.int .i64 i0, .int .i64 i1, .string s, .int .i64 i3, .int .i64 i4, .int .i64 i5, .slice ca nc cc, .int .i64 i7, .int .i64 i8, .slice ba nb bc]) rfl (by kernel_rfl) (by kernel_rfl) (by kernel_rfl) (fun _ _ _ h => h) (Or.inl ⟨rfl, fun W hW => exl _ _ _ _ rfl (.pointer (some ⟨g, 0, none⟩)) _ rfl (L62.out W hW)⟩) hS0 ?_
        simp only [Act.put, List.setIfInBounds_toArray, List.set_cons_zero, List.set_cons_succ]
        refine takeR (fuel := 11) (i := 2) (v := .slice (some ⟨blk, off, none⟩) L.length cap) rfl (by kernel_rfl) (by kernel_rfl) (by kernel_rfl) (fun _ _ _ h => h) (Or.inl ⟨rfl, fun W hW => by go_simp⟩) hS0 ?_
        simp only [Act.put, List.setIfInBounds_toArray, List.set_cons_zero, List.set_cons_succ]
        refine takeR (fuel := 10) (i := 3) (v := .int .i64 k) rfl (by kernel_rfl) (by kernel_rfl) (by kernel_rfl) (fun _ _ _ h => h) (Or.inl ⟨rfl, fun W hW => by go_simp⟩) hS0 ?_
        simp only [Act.put, List.setIfInBounds_toArray, List.set_cons_zero, List.set_cons_succ]
        refine takeR (fuel := 9) (i := 4) (v := .pointer (some ⟨blk, off + k * 2, none⟩)) rfl (by kernel_rfl) (by kernel_rfl) (by kernel_rfl) (fun _ _ _ h => h) (Or.inl ⟨rfl, fun W hW => by go_simp⟩) hS0 ?_
        simp only [Act.put, List.setIfInBounds_toArray, List.set_cons_zero, List.set_cons_succ]
        refine takeR (fuel := 8) (i := 5) (v := .agg #[.string n, .int .i64 m]) rfl (by kernel_rfl) (by kernel_rfl) (by kernel_rfl) (fun _ _ _ h => h) (Or.inl ⟨rfl, fun W hW => exl _ _ _ _ rfl (.pointer (some ⟨blk, off + k * 2, none⟩)) _ rfl (L43.out W hW)⟩) hS0 ?_
        simp only [Act.put, List.setIfInBounds_toArray, List.set_cons_zero, List.set_cons_succ]
        refine takeR (fuel := 7) (i := 6) (v := .int .i64 d) rfl (by kernel_rfl) (by kernel_rfl) (by kernel_rfl) (fun _ _ _ h => h) (Or.inl ⟨rfl, fun W hW => by go_simp⟩) hS0 ?_
        simp only [Act.put, List.setIfInBounds_toArray, List.set_cons_zero, List.set_cons_succ]
        refine consR2 (fuel := 6) (i := 7) (j := 11) rfl rfl (by kernel_rfl) (fun K hK => ?_) (fun K hK => ?_)
        · rw [if_pos (by rfl)]
          go_simp
          refine (H64.out _ hS0).mono ?_
          rintro x v1 ⟨rfl, HV1⟩
          have hC1 : Below wr.heap.size wr v1 := hS0.trans (HV1.out.mono hS0.size)
          refine hK.out _ _ hC1 (fun hS1 => ?_)
          clear hK
          try simp only [Act.put, List.setIfInBounds_toArray, List.set_cons_zero, List.set_cons_succ]
          refine takeR (fuel := 5) (i := 8) (v := .tuple #[.agg #[.string l, .int .i64 q, .string ai, .int .i64 a1, .int .i64 a2, .int .i64 am, .string ac, .int .i64 p, .int .i64 c], .int .i64 E]) rfl (by kernel_rfl) (by kernel_rfl) (by kernel_rfl) (fun _ _ _ h => h) (Or.inl ⟨rfl, fun W hW => by go_simp⟩) hS1 ?_
          simp only [Act.put, List.setIfInBounds_toArray, List.set_cons_zero, List.set_cons_succ]
          refine takeR (fuel := 4) (i := 9) (v := .agg #[.string l, .int .i64 q, .string ai, .int .i64 a1, .int .i64 a2, .int .i64 am, .string ac, .int .i64 p, .int .i64 c]) rfl (by kernel_rfl) (by kernel_rfl) (by kernel_rfl) (fun _ _ _ h => h) (Or.inl ⟨rfl, fun W hW => by go_simp⟩) hS1 ?_
          simp only [Act.put, List.setIfInBounds_toArray, List.set_cons_zero, List.set_cons_succ]
          refine takeR (fuel := 3) (i := 10) (v := .int .i64 E) rfl (by kernel_rfl) (by kernel_rfl) (by kernel_rfl) (fun _ _ _ h => h) (Or.inl ⟨rfl, fun W hW => by go_simp⟩) hS1 ?_
          simp only [Act.put, List.setIfInBounds_toArray, List.set_cons_zero, List.set_cons_succ]
          refine consR (fuel := 2) (i := 11) rfl (by kernel_rfl) (fun K hK => ?_)
          rw [if_pos (by rfl)]
          go_simp
          have hC2 : Below wr.heap.size wr (v1.alloc (.cells #[.string ⟨#[]⟩, .int .i64 0, .string ⟨#[]⟩, .int .i64 0, .int .i64 0, .int .i64 0, .string ⟨#[]⟩, .int .i64 0, .int .i64 0] 87)) := hC1.trans ((below_a _ _).mono hC1.size)
          refine hK.out _ _ hC2 (fun hS2 => ?_)
          clear hK
          try simp only [Act.put, List.setIfInBounds_toArray, List.set_cons_zero, List.set_cons_succ]
          have hn : Bx (v1.alloc (.cells #[.string ⟨#[]⟩, .int .i64 0, .string ⟨#[]⟩, .int .i64 0, .int .i64 0, .int .i64 0, .string ⟨#[]⟩, .int .i64 0, .int .i64 0] 87)) v1.heap.size #[.string ⟨#[]⟩, .int .i64 0, .string ⟨#[]⟩, .int .i64 0, .int .i64 0, .int .i64 0, .string ⟨#[]⟩, .int .i64 0, .int .i64 0] 87 := Bx.new _ _ _
          have hle : wr.heap.size ≤ v1.heap.size := hC1.size
          generalize v1.heap.size = gb at *
          generalize v1.alloc (.cells #[.string ⟨#[]⟩, .int .i64 0, .string ⟨#[]⟩, .int .i64 0, .int .i64 0, .int .i64 0, .string ⟨#[]⟩, .int .i64 0, .int .i64 0] 87) = v2 at *
          refine consR (fuel := 1) (i := 12) rfl (by kernel_rfl) (fun K hK => ?_)
          rw [if_pos (by rfl)]
          refine ow_store _ _ 87 _ _ rfl _ _ rfl rfl (storeT _ gb _ #[.string l, .int .i64 q, .string ai, .int .i64 a1, .int .i64 a2, .int .i64 am, .string ac, .int .i64 p, .int .i64 c] sinfo87 hn rfl rfl (by simp [Value.oneCell'])) ?_
          have hC3 := below_setRow2 (g := gb) (M := #[.string l, .int .i64 q, .string ai, .int .i64 a1, .int .i64 a2, .int .i64 am, .string ac, .int .i64 p, .int .i64 c]) hS2 hle
          refine hK.out _ _ hC3 (fun hS3 => ?_)
          clear hK
          try simp only [Act.put, List.setIfInBounds_toArray, List.set_cons_zero, List.set_cons_succ]
          have hn3 := hn.set (ds := #[.string l, .int .i64 q, .string ai, .int .i64 a1, .int .i64 a2, .int .i64 am, .string ac, .int .i64 p, .int .i64 c])
          refine takeR (fuel := 0) (i := 13) (v := .int .i64 E) rfl (by kernel_rfl) (by kernel_rfl) (by kernel_rfl) (fun _ _ _ h => h) (Or.inl ⟨rfl, fun W hW => by go_simp⟩) hS3 ?_
          simp only [Act.put, List.setIfInBounds_toArray, List.set_cons_zero, List.set_cons_succ]
          refine wpAnyH_done (by kernel_rfl) ?_ _
          go_wp2_with fail
          go_meet
          exact ⟨rfl, gb, rfl, hn3, hS3, hle⟩
        · rw [if_pos (by rfl)]
          go_simp
          have hC0 : Below wr.heap.size wr (wr.alloc (.cells #[.string ⟨#[]⟩, .int .i64 0, .string ⟨#[]⟩, .int .i64 0, .int .i64 0, .int .i64 0, .string ⟨#[]⟩, .int .i64 0, .int .i64 0] 87)).drew := (below_a _ _).trans ((below_dr _).mono (below_a wr (.cells #[.string ⟨#[]⟩, .int .i64 0, .string ⟨#[]⟩, .int .i64 0, .int .i64 0, .int .i64 0, .string ⟨#[]⟩, .int .i64 0, .int .i64 0] 87)).size)
          refine hK.out _ _ hC0 (fun hS1 => ?_)
          clear hK
          try simp only [Act.put, List.setIfInBounds_toArray, List.set_cons_zero, List.set_cons_succ]
          have hn0 : Bx (wr.alloc (.cells #[.string ⟨#[]⟩, .int .i64 0, .string ⟨#[]⟩, .int .i64 0, .int .i64 0, .int .i64 0, .string ⟨#[]⟩, .int .i64 0, .int .i64 0] 87)).drew wr.heap.size #[.string ⟨#[]⟩, .int .i64 0, .string ⟨#[]⟩, .int .i64 0, .int .i64 0, .int .i64 0, .string ⟨#[]⟩, .int .i64 0, .int .i64 0] 87 := (Bx.new wr _ _).below (below_dr _) (by simp)
          have hle : wr.heap.size ≤ wr.heap.size := Nat.le_refl _
          generalize (wr.alloc (.cells #[.string ⟨#[]⟩, .int .i64 0, .string ⟨#[]⟩, .int .i64 0, .int .i64 0, .int .i64 0, .string ⟨#[]⟩, .int .i64 0, .int .i64 0] 87)).drew = v0 at *
          refine consR (fuel := 5) (i := 7) rfl (by kernel_rfl) (fun K hK => ?_)
          rw [if_pos (by rfl)]
          go_simp
          refine (H64.out _ hS1).mono ?_
          rintro x v2 ⟨rfl, HV1⟩
          have hC1 : Below wr.heap.size wr v2 := hS1.trans (HV1.out.mono hS1.size)
          refine hK.out _ _ hC1 (fun hS2 => ?_)
          clear hK
          try simp only [Act.put, List.setIfInBounds_toArray, List.set_cons_zero, List.set_cons_succ]
          have hn := hn0.below HV1.out hn0.lt
          refine takeR (fuel := 4) (i := 8) (v := .tuple #[.agg #[.string l, .int .i64 q, .string ai, .int .i64 a1, .int .i64 a2, .int .i64 am, .string ac, .int .i64 p, .int .i64 c], .int .i64 E]) rfl (by kernel_rfl) (by kernel_rfl) (by kernel_rfl) (fun _ _ _ h => h) (Or.inl ⟨rfl, fun W hW => by go_simp⟩) hS2 ?_
          simp only [Act.put, List.setIfInBounds_toArray, List.set_cons_zero, List.set_cons_succ]
          refine takeR (fuel := 3) (i := 9) (v := .agg #[.string l, .int .i64 q, .string ai, .int .i64 a1, .int .i64 a2, .int .i64 am, .string ac, .int .i64 p, .int .i64 c]) rfl (by kernel_rfl) (by kernel_rfl) (by kernel_rfl) (fun _ _ _ h => h) (Or.inl ⟨rfl, fun W hW => by go_simp⟩) hS2 ?_
          simp only [Act.put, List.setIfInBounds_toArray, List.set_cons_zero, List.set_cons_succ]
          refine takeR (fuel := 2) (i := 10) (v := .int .i64 E) rfl (by kernel_rfl) (by kernel_rfl) (by kernel_rfl) (fun _ _ _ h => h) (Or.inl ⟨rfl, fun W hW => by go_simp⟩) hS2 ?_
          simp only [Act.put, List.setIfInBounds_toArray, List.set_cons_zero, List.set_cons_succ]
          refine consR (fuel := 1) (i := 12) rfl (by kernel_rfl) (fun K hK => ?_)
          rw [if_pos (by rfl)]
          refine ow_store _ _ 87 _ _ rfl _ _ rfl rfl (storeT _ wr.heap.size _ #[.string l, .int .i64 q, .string ai, .int .i64 a1, .int .i64 a2, .int .i64 am, .string ac, .int .i64 p, .int .i64 c] sinfo87 hn rfl rfl (by simp [Value.oneCell'])) ?_
          have hC3 := below_setRow2 (g := wr.heap.size) (M := #[.string l, .int .i64 q, .string ai, .int .i64 a1, .int .i64 a2, .int .i64 am, .string ac, .int .i64 p, .int .i64 c]) hS2 hle
          refine hK.out _ _ hC3 (fun hS3 => ?_)
          clear hK
          try simp only [Act.put, List.setIfInBounds_toArray, List.set_cons_zero, List.set_cons_succ]
          have hn3 := hn.set (ds := #[.string l, .int .i64 q, .string ai, .int .i64 a1, .int .i64 a2, .int .i64 am, .string ac, .int .i64 p, .int .i64 c])
          refine takeR (fuel := 0) (i := 13) (v := .int .i64 E) rfl (by kernel_rfl) (by kernel_rfl) (by kernel_rfl) (fun _ _ _ h => h) (Or.inl ⟨rfl, fun W hW => by go_simp⟩) hS3 ?_
          simp only [Act.put, List.setIfInBounds_toArray, List.set_cons_zero, List.set_cons_succ]
          refine wpAnyH_done (by kernel_rfl) ?_ _
          go_wp2_with fail
          go_meet
          exact ⟨rfl, wr.heap.size, rfl, hn3, hS3, hle⟩
      case rest =>
        obtain ⟨rfl, gb, rfl, HCT⟩ := hcut
        obtain ⟨wb, hwb⟩ : ∃ wb, wc = wb := ⟨_, rfl⟩
        rw [hwb] at HCT ⊢
        clear hwb
        have HI : Hid (Bx wb gb #[.string l, .int .i64 q, .string ai, .int .i64 a1, .int .i64 a2, .int .i64 am, .string ac, .int .i64 p, .int .i64 c] 87) := HCT.out.1
        have HBb : Hid (Below wr.heap.size wr wb) := HCT.out.2.1
        have HXb : Hid (Bx wb g #[.int .i64 i0, .int .i64 i1, .string s, .int .i64 i3, .int .i64 i4, .int .i64 i5, .slice ca nc cc, .int .i64 i7, .int .i64 i8, .slice ba nb bc] 62) := (HX1.out.below HBR.out HGW.out).below HBb.out (Nat.lt_of_lt_of_le HGW.out HBR.out.size)
        clear HCT H64 L62
        by_cases hE : E = 0
        · subst hE
          have d0 : wb.cell? ⟨g, 0, none⟩ = some (.int .i64 i0) := HXb.out.cell 0
          have d1 : wb.cell? ⟨g, 1, none⟩ = some (.int .i64 i1) := HXb.out.cell 1
          have d2 : wb.cell? ⟨g, 2, none⟩ = some (.string s) := HXb.out.cell 2
          have d3 : wb.cell? ⟨g, 3, none⟩ = some (.int .i64 i3) := HXb.out.cell 3
          have d4 : wb.cell? ⟨g, 4, none⟩ = some (.int .i64 i4) := HXb.out.cell 4
          have d5 : wb.cell? ⟨g, 5, none⟩ = some (.int .i64 i5) := HXb.out.cell 5
          have d6 : wb.cell? ⟨g, 6, none⟩ = some (.slice ca nc cc) := HXb.out.cell 6
          have d7 : wb.cell? ⟨g, 7, none⟩ = some (.int .i64 i7) := HXb.out.cell 7
          have d8 : wb.cell? ⟨g, 8, none⟩ = some (.int .i64 i8) := HXb.out.cell 8
          have d9 : wb.cell? ⟨g, 9, none⟩ = some (.slice ba nb bc) := HXb.out.cell 9
          have f0 : wb.cell? ⟨gb, 0, none⟩ = some (.string l) := HI.out.cell 0
          have f1 : wb.cell? ⟨gb, 1, none⟩ = some (.int .i64 q) := HI.out.cell 1
          have f2 : wb.cell? ⟨gb, 2, none⟩ = some (.string ai) := HI.out.cell 2
          have f3 : wb.cell? ⟨gb, 3, none⟩ = some (.int .i64 a1) := HI.out.cell 3
          have f4 : wb.cell? ⟨gb, 4, none⟩ = some (.int .i64 a2) := HI.out.cell 4
          have f5 : wb.cell? ⟨gb, 5, none⟩ = some (.int .i64 am) := HI.out.cell 5
          have f6 : wb.cell? ⟨gb, 6, none⟩ = some (.string ac) := HI.out.cell 6
          have f7 : wb.cell? ⟨gb, 7, none⟩ = some (.int .i64 p) := HI.out.cell 7
          have f8 : wb.cell? ⟨gb, 8, none⟩ = some (.int .i64 c) := HI.out.cell 8
          obtain ⟨y, hyz, hy65⟩ := H65.out rfl
          have H65b := hid_in (hy65 wb (HBR.out.trans (HBb.out.mono HBR.out.size)))
          clear H65 hy65
          cases z with
          | true =>
            go_upto_region 8 with (go_at_call 65; refine H65b.out.mono ?_; clear H65b; rintro e w3 ⟨rfl, HB3⟩)
            clear d0 d1 d2 d3 d4 d5 d6 d7 d8 d9 f0 f1 f2 f3 f4 f5 f6 f7 f8
            obtain ⟨u', w6, hr6, HZ⟩ := HYES.out rfl w3 (HBb.out.trans (HB3.out.mono HBb.out.size))
            have HI3 := hid_in (HI.out.below HB3.out HI.out.lt)
            have f0 : w3.cell? ⟨gb, 0, none⟩ = some (.string l) := HI3.out.cell 0
            have f1 : w3.cell? ⟨gb, 1, none⟩ = some (.int .i64 q) := HI3.out.cell 1
            have f2 : w3.cell? ⟨gb, 2, none⟩ = some (.string ai) := HI3.out.cell 2
            have f3 : w3.cell? ⟨gb, 3, none⟩ = some (.int .i64 a1) := HI3.out.cell 3
            have f4 : w3.cell? ⟨gb, 4, none⟩ = some (.int .i64 a2) := HI3.out.cell 4
            have f5 : w3.cell? ⟨gb, 5, none⟩ = some (.int .i64 am) := HI3.out.cell 5
            have f6 : w3.cell? ⟨gb, 6, none⟩ = some (.string ac) := HI3.out.cell 6
            have f7 : w3.cell? ⟨gb, 7, none⟩ = some (.int .i64 p) := HI3.out.cell 7
            have f8 : w3.cell? ⟨gb, 8, none⟩ = some (.int .i64 c) := HI3.out.cell 8
            clear HI3 HI HXb HBb HB3 HYES HNO L43 L43c
            go_wp2_with (at_builtin; refine Lib.wpList_append_run _ rfl _ _ 40 40 rfl _ _ rfl rfl _ w6 hr6 ?_)
            go_roundw
            case rel => exact ⟨k + 1, u', v, by omega, rfl, rfl, by simp, HZ⟩
            case measure => simp [intOf]; omega
          | false =>
            go_upto_region 9 with (go_at_call 65; refine H65b.out.mono ?_; clear H65b; rintro e w3 ⟨rfl, HB3⟩)
            clear d0 d1 d2 d3 d4 d5 d6 d7 d8 d9 f0 f1 f2 f3 f4 f5 f6 f7 f8
            obtain ⟨v', w6, hr6, HZ⟩ := HNO.out rfl w3 (HBb.out.trans (HB3.out.mono HBb.out.size))
            have e0 := (L43c.out w3 (HBb.out.trans (HB3.out.mono HBb.out.size))).1
            have e1 := (L43c.out w3 (HBb.out.trans (HB3.out.mono HBb.out.size))).2
            clear HNO HYES L43 L43c HI HXb
            go_wp2_with (at_builtin; refine Lib.wpList_append_run _ rfl _ _ 22 22 rfl _ _ rfl rfl _ w6 hr6 ?_)
            go_roundw
            case rel => exact ⟨k + 1, u, v', by omega, rfl, rfl, by simp, HZ⟩
            case measure => simp [intOf]; omega
        · have hEb : (E == 0) = false := by simp [hE]
          have hok : okT ((⟨l, q, ⟨ai, a1, a2, am, ac⟩, p, c⟩ : It), E, z) = false := by unfold okT; simp [hE]
          rw [hok] at HNO
          clear hok hE H65
          obtain ⟨v', w6, hr6, HZ⟩ := HNO.out rfl wb HBb.out
          have e0 := (L43c.out wb HBb.out).1
          have e1 := (L43c.out wb HBb.out).2
          clear HNO HYES L43 L43c HI HXb
          go_wp2_with (at_builtin; refine Lib.wpList_append_run _ rfl _ _ 22 22 rfl _ _ rfl rfl _ w6 hr6 ?_)
          go_roundw
          case rel => exact ⟨k + 1, u, v', by omega, rfl, rfl, by simp, HZ⟩
          case measure => simp [intOf]; omega
    · have hkz : ¬ (k : Int) < (L.length : Int) := by omega
      have hR : ElS w1.heap.size w1 wr u v (elT f L) (elO f L) := by
        have := HR.out
        rwa [List.take_of_length_le (by omega)] at this
      obtain ⟨a', cap', rfl, _, hr⟩ := own_rw its_len hR.t rfl
      obtain ⟨a2, cap2, rfl, _, hr2⟩ := hR.o.read
      have HC : Hid (Calls Try.prog 24 #[.slice a' (elT f L).length cap'] wr fun x w' => ∃ a3 c3, x = .returned (.slice a3 (elT f L).length c3) ∧ Hid (ElP f L w (.returned (.tuple #[.slice a3 (elT f L).length c3, .slice a2 (elO f L).length cap2])) w')) := (rrank (elT f L) (Nat.le_trans (elT_len f L) HL.out) a' cap' wr hr).mono fun x w' hh => by
        obtain ⟨a3, c3, rfl, HZ⟩ := hh
        have hb1 := hR.b.trans (HZ.out.2.mono hR.z)
        exact ⟨a3, c3, rfl, a3, c3, a2, cap2, rfl, HZ.out.1, hr2.below HZ.out.2, by rw [HGE.out]; exact HB1.out.trans (hb1.mono (Nat.le_of_lt HGW.out))⟩
      clear HR hR hr hr2
      generalize (elT f L).length = n1 at *
      generalize (elO f L).length = n2 at *
      go_wp2_with (go_at_call 24; refine HC.out.mono ?_; clear HC; rintro x w2 ⟨a3, c3, rfl, HZ⟩)
      go_ret2
      exact HZ.out
end
end Go.Proofs.Ytheikjjehidagaa
