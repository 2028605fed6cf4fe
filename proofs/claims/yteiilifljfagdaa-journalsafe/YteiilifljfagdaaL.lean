/- A journal in memory; find. -/
import Derived.Test.YteiilifljfagdaaK
import Derived.WalkKit
import Derived.ProofKit
import Derived.Handy
import Derived.WalkLawsBesides
import Derived.WalkSpells
import Derived.BigQuiet
import Derived.BigCall
import Derived.Deep.QuietTactic
import Derived.Deep.Light
import Derived.Deep.OwnRows
import Derived.Laws.AppendOwnNone
import Derived.Laws.Strings3
import Derived.Laws.RangeAny
import Derived.Deep.RegionWith
import Derived.Lib.BitFns
import Derived.Lib.Walk
import Derived.Lib.Strings
import Derived.Lib.OthersKept
import Derived.Deep.CutBlock
import Derived.Deep.DeepCutAuto
import Derived.Deep.LoopGhost
import Derived.Deep.RegionHeld3
import Derived.Lib.SmallJoins
import Derived.Maps.AppendAt
import Derived.Laws.IdiomStrings
import Derived.Lib.AppendZeros
import Derived.Deep.WholeRow
import Derived.Laws.BitsAllLaws
import Derived.Lib.ConvBytes
namespace Go.Proofs.Yteiilifljfagdaa
open Go.RowKit
set_option linter.unusedVariables false
set_option linter.unusedSimpArgs false
theorem rd_len : ∀ (n : Nat) (l : List UInt8), l.length ≤ n → (rd n l).1.flatten.length + 12 * (rd n l).1.length ≤ l.length ∧ (rd n l).2.1 ≤ l.length := by
  intro n
  induction n with
  | zero => intro l h; exact ⟨Nat.zero_le _, Nat.zero_le _⟩
  | succ n ih =>
    intro l h
    rw [rd]
    by_cases h0 : l.length = 0
    · rw [if_pos h0]; exact ⟨Nat.zero_le _, Nat.zero_le _⟩
    · rw [if_neg h0]
      by_cases he : nextE l = 0
      · rw [if_pos he]
        have h1 := nextE_ok he
        have h2 := nextN_ok he
        have h3 : (nextL l).length ≤ val4 l := by rw [nextL_ok he, List.length_take]; omega
        obtain ⟨i1, i2⟩ := ih (l.drop (nextN l)) (by rw [List.length_drop]; omega)
        rw [List.length_drop] at i1 i2
        show ((nextL l :: (rd n (l.drop (nextN l))).1).flatten.length + 12 * ((rd n (l.drop (nextN l))).1.length + 1) ≤ _) ∧ nextN l + (rd n (l.drop (nextN l))).2.1 ≤ _
        rw [List.flatten_cons, List.length_append]
        omega
      · rw [if_neg he]; exact ⟨Nat.zero_le _, Nat.zero_le _⟩
theorem rdA_len (l : List UInt8) : (rdA l).1.flatten.length + 12 * (rdA l).1.length ≤ l.length ∧ (rdA l).2.1 ≤ l.length := rd_len _ _ (Nat.le_refl _)
/-- the better of two -/
def bet (o : Option (Nat × Jn)) (k : Nat) (l : Option Jn) : Option (Nat × Jn) :=
  match l, o with
  | none, o => o
  | some j, none => some (k, j)
  | some j, some (f, i) => if i.gen < j.gen then some (k, j) else some (f, i)
def bst (S : St) : Nat → Option (Nat × Jn)
  | 0 => none
  | k + 1 => bet (bst S k) k (look (fl S k))
theorem bst_two (S : St) : bst S 2 = pick S := by
  show bet (bet none 0 (look (fl S 0))) 1 (look (fl S 1)) = pick S
  unfold pick
  cases look (fl S 0) <;> cases look (fl S 1) <;> rfl
def jcells (br : Bool) (p f g a : Nat) (s : ByteArray) (v : Value) : Array Value := #[.bool true, .bool br, .pointer (some ⟨p, 0, none⟩), .int .i64 f, .int .i64 g, .int .i64 a, .string s, v]
structure Jm (B : Nat) (w : World) (q p : Nat) (br : Bool) (f g a : Nat) (s : ByteArray) (v : Value) (cs : List ByteArray) : Prop where
  base : B ≤ q
  blk : w.heap[q]? = some (.cells (jcells br p f g a s v) 73 (0, 0))
  own : w.ownsRow B 9 1 v cs.length (scells cs)
/-- the block of a row is of its element's type -/
theorem own_ne9 {B p T e : Nat} {w : World} {cs : Array Value} {fz : Nat × Nat} {v : Value} {n : Nat} {xs : List Value} (h : w.ownsRow B e 1 v n xs) (hp : w.heap[p]? = some (.cells cs T fz)) (hT : T ≠ e) : v.ownBlock ≠ some p := by
  intro q
  rcases h.2 with ⟨rfl, _⟩ | ⟨g, cap, cur, rfl, _, hg, _⟩
  · cases q
  · obtain rfl : g = p := Option.some.inj q
    rw [hp] at hg
    injection hg with hg
    injection hg with _ e2 _
    exact hT e2
theorem blk_ne {w : World} {p q T U : Nat} {cs ds : Array Value} {f1 f2 : Nat × Nat} (hp : w.heap[p]? = some (.cells cs T f1)) (hq : w.heap[q]? = some (.cells ds U f2)) (h : T ≠ U) : p ≠ q := by
  intro e
  subst e
  rw [hp] at hq
  injection hq with hq
  injection hq with _ e2 _
  exact h e2
section
variable {B q p f g a : Nat} {w w' : World} {br : Bool} {s : ByteArray} {v : Value} {cs : List ByteArray}
theorem Jm.lt (h : Jm B w q p br f g a s v cs) : q < w.heap.size := (Array.getElem?_eq_some_iff.1 h.blk).1
theorem Jm.cell (h : Jm B w q p br f g a s v cs) (j : Nat) : w.cell? ⟨q, j, none⟩ = (jcells br p f g a s v)[j]? := cell_of_row w q j _ 73 (0, 0) h.blk
theorem Jm.froz (h : Jm B w q p br f g a s v cs) (j : Nat) : w.frozen? ⟨q, j, none⟩ = false := by
  have := h.blk
  simp [World.frozen?, this]
theorem Jm.keep (h : Jm B w q p br f g a s v cs) (hb : Below w.heap.size w w') : Jm B w' q p br f g a s v cs :=
  ⟨h.base, (hb.block q h.lt).trans h.blk, own_keep h.own hb⟩
theorem Jm.below (h : Jm B w q p br f g a s v cs) {B2 : Nat} (hB : B2 ≤ B) : Jm B2 w q p br f g a s v cs := ⟨Nat.le_trans hB h.base, h.blk, own_base h.own hB⟩
/-- a change of the disk leaves the journal -/
theorem Jm.fr (h : Jm B w q p br f g a s v cs) {C p2 : Nat} {S : St} {V : Nat → Value} (hd : Dk C w p2 S V) {C2 : Nat} (hf : Fr C2 p2 w w') : Jm B w' q p br f g a s v cs := by
  have hne : q ≠ p2 := blk_ne h.blk hd.blk (by decide)
  refine ⟨h.base, hf.keep h.blk (by decide) hne, h.own.1, ?_⟩
  rcases h.own.2 with z | ⟨g', cap, cur, rfl, hb, hg, z⟩
  · exact .inl z
  · exact .inr ⟨g', cap, cur, rfl, hb, hf.keep hg (by decide) (blk_ne hg hd.blk (by decide)), z⟩
end
/-- the best so far -/
def Bst (B p : Nat) (w : World) (o : Option (Nat × Jn)) (v : Value) (n : Int) : Prop :=
  (o = none ∧ v = .pointer none ∧ n = 0) ∨ ∃ f j q s u ys, o = some (f, j) ∧ v = .pointer (some ⟨q, 0, none⟩) ∧ n = (j.fin : Nat) ∧ Jm B w q p false f j.gen j.ahead s u ys ∧ s.data.toList = j.st ∧ ls ys = j.l
theorem Bst.keep {B p : Nat} {w w' : World} {o : Option (Nat × Jn)} {v : Value} {n : Int} (h : Bst B p w o v n) (hb : Below w.heap.size w w') : Bst B p w' o v n := by
  rcases h with h | ⟨f, j, q, s, u, ys, h1, h2, h3, h4, h5⟩
  · exact .inl h
  · exact .inr ⟨f, j, q, s, u, ys, h1, h2, h3, h4.keep hb, h5⟩
def FdP (S : St) (p : Nat) (w : World) (e : Ending) (w' : World) : Prop := ∃ v n, e = .returned (.tuple #[v, .int .i64 n, .int .i64 (if pick S = none then 15 else 0)]) ∧ Hid (Bst w.heap.size p w' (pick S) v n) ∧ Hid (Below w.heap.size w w')
set_option maxHeartbeats 4000000 in
set_option maxRecDepth 100000 in
theorem xfindJ (B p : Nat) (S : St) (V : Nat → Value) (w : World) (h : Dk B w p S V) (ok : Ok S) (hg : S.gone = false) : Calls Try.prog 54 #[.pointer (some ⟨p, 0, none⟩)] w (FdP S p w) := by
  have H : Hid (Dk B w p S V) := h
  have HR : Hid (∀ (k : Nat), k ≤ 1 → ∀ w1, Below w.heap.size w w1 → Calls Try.prog 14 #[.pointer (some ⟨p, 0, none⟩), .int .i64 k] w1 fun e w' => e = .returned (.tuple #[.string (S.f k), .int .i64 0]) ∧ w1 = w') := by
    intro k hk w1 hb
    have := dread B p S V w1 (h.below hb) k
    have e1 : chk S k = 0 := chk_on hg hk
    unfold drd at this
    rw [e1, if_pos rfl, Int.toNat_natCast] at this
    exact this
  have HZ : Hid (∀ k, (S.f k).size ≤ 1048576) := ok.small
  clear h ok hg
  go_enter Try.func54, Try.ntmps54
  go_wp2_with fail
  go_loopw [5, 6, 15] (fun v n i wr => ∃ (k : Nat) (m : Int), i = .int .i64 k ∧ n = .int .i64 m ∧ k ≤ 2 ∧ Hid (Bst w.heap.size p wr (bst S k) v m) ∧ Hid (Below w.heap.size w wr)) (fun _ _ i _ => 2 - (Lib.intOf i).toNat)
  case atStart => exact ⟨0, 0, rfl, rfl, by omega, .inl ⟨rfl, rfl, rfl⟩, Below.refl _ _⟩
  case round =>
    obtain ⟨k, m, rfl, rfl, hk, HBs, HB⟩ := hrel
    by_cases hkn : k < 2
    · have hkz : (k : Int) < 2 := by omega
      have HRk : Hid (Calls Try.prog 14 #[.pointer (some ⟨p, 0, none⟩), .int .i64 k] wr fun e w' => e = .returned (.tuple #[.string (S.f k), .int .i64 0]) ∧ wr = w') := HR.out k (by omega) wr HB.out
      have HX : Hid (∀ w, Calls Try.prog 72 #[.string (S.f k)] w (RP (fl S k) w)) := fun w => xread (S.f k) (by have := HZ.out k; omega) w
      go_wp2_with fail
      refine HRk.out.mono ?_
      rintro e w1 ⟨rfl, rfl⟩
      go_wp2_with fail
      refine (HX.out _).mono ?_
      rintro e w1 ⟨xs, a1, c1, rfl, hxs, hst, hcap, hb1⟩
      have hlen : tot xs + 12 * xs.length ≤ 1048576 := by
        have e1 := (rdA_len (fl S k)).1
        rw [← hxs, tot_flatten, ls_len, fl_len] at e1
        have := HZ.out k
        omega
      have HP : Hid (Calls Try.prog 73 #[.slice a1 xs.length c1] w1 (PrP (rdA (fl S k)).1 w1)) := by
        have := xparse xs a1 c1 w1 hst hcap hlen
        rw [hxs] at this
        exact this
      have HB1 : Hid (Below w.heap.size w w1) := HB.out.trans (hb1.mono HB.out.size)
      have HBs1 : Hid (Bst w.heap.size p w1 (bst S k) u5 m) := HBs.out.keep hb1
      have HL : Hid (look (fl S k) = (prs (rdA (fl S k)).1).map fun x => ⟨x.1, x.2.1, x.2.2.1, x.2.2.2, (rdA (fl S k)).2.1⟩) := look_prs _
      clear hxs hst hcap hb1 hlen HBs HB HRk HX
      generalize (rdA (fl S k)).2.1 = E1 at *
      generalize (rdA (fl S k)).2.2 = E2 at *
      generalize (rdA (fl S k)).1 = PL at *
      go_wp2_with fail
      refine HP.out.mono ?_
      rintro e w2 (⟨hn, rfl, hb2⟩ | ⟨G, A, Z, v2, ys, hn, rfl, ho2, hb2⟩)
      · have HB2 : Hid (Below w.heap.size w w2) := HB1.out.trans (hb2.mono HB1.out.size)
        have HBs2 : Hid (Bst w.heap.size p w2 (bst S (k + 1)) u5 m) := by
          have e1 := HL.out
          rw [hn] at e1
          have e2 : bst S (k + 1) = bst S k := by show bet (bst S k) k (look (fl S k)) = _; rw [e1]; rfl
          unfold Hid
          rw [e2]
          exact HBs1.out.keep hb2
        clear hn hb2 HBs1 HB1 HL HP
        go_wp2_with fail
        go_quiet (fail)
        go_wp2_with fail
        have hbb : Below w2.heap.size w2 ((w2.alloc (.cells #[.int .i64 0, .int .i64 0, .string ⟨#[]⟩, .slice none 0 0] 71)).drewN nq) := bdrew (below_new w2 _) nq
        exact ⟨⟨k + 1, m, by rw [Int.natCast_add]; rfl, rfl, by omega, HBs2.out.keep hbb, HB2.out.trans (hbb.mono HB2.out.size)⟩, by simp only [Lib.intOf]; omega⟩
      · have HB2 : Hid (Below w.heap.size w w2) := HB1.out.trans (hb2.mono HB1.out.size)
        have HE : Hid (look (fl S k) = some ⟨G, A, Z.data.toList, ls ys, E1⟩) := by
          have e1 := HL.out
          rw [hn] at e1
          exact e1
        have HO2 : Hid (w2.ownsRow w.heap.size 9 1 v2 ys.length (scells ys)) := own_base ho2 HB1.out.size
        obtain ⟨x2, c2, rfl⟩ := own_slice ho2
        have HNew : Hid (∀ (w5 : World) (cs : Array Value) (nq : Nat), w5 = ((w2.alloc (.cells cs 71)).drewN nq).alloc (.cells (jcells false p k G A Z (.slice x2 ys.length c2)) 73) → Below w.heap.size w w5 ∧ Jm w.heap.size w5 (w2.heap.size + 1) p false k G A Z (.slice x2 ys.length c2) ys) := by
          intro w5 cs nq hw
          have hs2 := HB2.out.size
          have hb3 : Below w.heap.size w ((w2.alloc (.cells cs 71)).drewN nq) := bdrew (HB2.out.alloc hs2 _) nq
          have hz : ((w2.alloc (.cells cs 71)).drewN nq).heap.size = w2.heap.size + 1 := by show (w2.alloc (.cells cs 71)).heap.size = _; simp
          have h9 := heap_alloc_new ((w2.alloc (.cells cs 71)).drewN nq) (.cells (jcells false p k G A Z (.slice x2 ys.length c2)) 73)
          rw [hz] at h9
          subst hw
          exact ⟨hb3.alloc (by rw [hz]; omega) _, by omega, h9, own_keep HO2.out ((bdrew (below_new w2 _) nq).alloc (by rw [hz]; omega) _)⟩
        have HBs2 : Hid (Bst w.heap.size p w2 (bst S k) u5 m) := HBs1.out.keep hb2
        clear hn hb2 HBs1 HB1 HL HP ho2
        rcases HBs2.out with ⟨b1, rfl, rfl⟩ | ⟨f, j, q, s, u, zs, b1, rfl, rfl, b4, b5⟩
        · have HN : Hid (bst S (k + 1) = some (k, ⟨G, A, Z.data.toList, ls ys, E1⟩)) := by
            show bet (bst S k) k (look (fl S k)) = _
            rw [HE.out, b1]
            rfl
          clear b1 HBs2 HE
          go_wp2_with fail
          go_quiet (fail)
          go_wp2_with fail
          obtain ⟨n1, n2⟩ := HNew.out _ _ nq rfl
          exact ⟨⟨k + 1, E1, by rw [Int.natCast_add]; rfl, rfl, by omega, .inr ⟨k, _, w2.heap.size + 1, Z, _, ys, HN.out, rfl, rfl, n2, rfl, rfl⟩, n1⟩, by simp only [Lib.intOf]; omega⟩
        · have hc4 : w2.cell? ⟨q, 4, none⟩ = some (.int .i64 j.gen) := b4.cell 4
          have hql := b4.lt
          by_cases hgt : j.gen < G
          · have hgz : (j.gen : Int) < (G : Int) := by omega
            have HN : Hid (bst S (k + 1) = some (k, ⟨G, A, Z.data.toList, ls ys, E1⟩)) := by
              show bet (bst S k) k (look (fl S k)) = _
              rw [HE.out, b1]
              exact if_pos hgt
            clear b1 HBs2 HE b4 b5
            go_wp2_with fail
            go_quiet (fail)
            go_wp2_with fail
            obtain ⟨n1, n2⟩ := HNew.out _ _ nq rfl
            exact ⟨⟨k + 1, E1, by rw [Int.natCast_add]; rfl, rfl, by omega, .inr ⟨k, _, w2.heap.size + 1, Z, _, ys, HN.out, rfl, rfl, n2, rfl, rfl⟩, n1⟩, by simp only [Lib.intOf]; omega⟩
          · have hgz : ¬ (j.gen : Int) < (G : Int) := by omega
            have HN : Hid (bst S (k + 1) = bst S k) := by
              show bet (bst S k) k (look (fl S k)) = _
              rw [HE.out, b1]
              exact if_neg hgt
            clear b1 HE b4 b5 HNew
            go_wp2_with fail
            go_quiet (fail)
            go_wp2_with fail
            have hbb : Below w2.heap.size w2 ((w2.alloc (.cells #[.int .i64 G, .int .i64 A, .string Z, .slice x2 ys.length c2] 71)).drewN nq) := bdrew (below_new w2 _) nq
            exact ⟨⟨k + 1, (j.fin : Nat), by rw [Int.natCast_add]; rfl, rfl, by omega, by unfold Hid; rw [HN.out]; exact HBs2.out.keep hbb, HB2.out.trans (hbb.mono HB2.out.size)⟩, by simp only [Lib.intOf]; omega⟩
    · have hkz : ¬ (k : Int) < 2 := by omega
      obtain rfl : k = 2 := by omega
      rw [bst_two] at HBs
      rcases HBs.out with ⟨h1, rfl, rfl⟩ | ⟨f, j, q, s, u, ys, h1, rfl, rfl, h4⟩
      · have HF : Hid (pick S = none) := h1
        go_wp2_with fail
        go_ret3
        exact ⟨.pointer none, 0, by rw [if_pos HF.out]; rfl, HBs, HB⟩
      · have HF : Hid (¬ pick S = none) := by unfold Hid; rw [h1]; exact fun q => by cases q
        clear h1 h4
        go_wp2_with fail
        go_ret3
        exact ⟨.pointer (some ⟨q, 0, none⟩), (j.fin : Nat), by rw [if_neg HF.out]; rfl, HBs, HB⟩
end Go.Proofs.Yteiilifljfagdaa
