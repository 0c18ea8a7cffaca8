import Derived.Test.YtbcjlpjohknljaaGreatDoorNa
import Derived.WalkKit
import Derived.WalkSpells
import Derived.WalkLawsBesides
import Derived.Deep.OwnRows
import Derived.Deep.QuietTactic
import Derived.BigQuiet
import Derived.Deep.RegionWith
import Derived.Deep.DrawnRows
import Derived.Test.YtbcjlpjohknljaaGreatDoorKa
namespace Go.Proofs.YtbcjlpjohknljaaGreatDoor
open Go.RowKit Go.Sort

end Go.Proofs.YtbcjlpjohknljaaGreatDoor
namespace Go.Proofs.YtbcjlpjohknljaaGreatDoor
open Go.RowKit Go.Sort

end Go.Proofs.YtbcjlpjohknljaaGreatDoor
namespace Go.Proofs.YtbcjlpjohknljaaGreatDoor
open Go.RowKit Go.Sort

end Go.Proofs.YtbcjlpjohknljaaGreatDoor
namespace Go.Proofs.YtbcjlpjohknljaaGreatDoor
open Go.RowKit Go.Sort

set_option linter.unusedVariables false

end Go.Proofs.YtbcjlpjohknljaaGreatDoor
namespace Go.Proofs.YtbcjlpjohknljaaGreatDoor
open Go.RowKit Go.Sort

end Go.Proofs.YtbcjlpjohknljaaGreatDoor
namespace Go.Proofs.YtbcjlpjohknljaaGreatDoor
open Go.RowKit Go.Sort

end Go.Proofs.YtbcjlpjohknljaaGreatDoor
namespace Go.Proofs.YtbcjlpjohknljaaGreatDoor
open Go.RowKit
open Go.RowKit Go.Sort

set_option maxHeartbeats 400000 in
theorem eqBank_any (ao bo ao' bo' : Option Addr) (n m c d n' m' c' d' : Nat) (xs ys xs' ys' : List Int) (w : World) (hn : n ≤ 1048576) (hm : m ≤ 1048576) (hn' : n' ≤ 1048576) (hm' : m' ≤ 1048576)
    (hx : SliceOf w ao n xs) (hy : SliceOf w bo m ys) (hx' : SliceOf w ao' n' xs') (hy' : SliceOf w bo' m' ys') :
    Calls Tryz.prog 60 #[.agg #[.slice ao n c, .slice bo m d], .agg #[.slice ao' n' c', .slice bo' m' d']] w fun e w' => e = .returned (.bool (decide (xs = xs' ∧ ys = ys'))) ∧ Below w.heap.size w w' := by
  have HX : Hid (∀ w', Below w.heap.size w w' → SliceOf w' ao n xs ∧ SliceOf w' bo m ys ∧ SliceOf w' ao' n' xs' ∧ SliceOf w' bo' m' ys') := fun w' h => ⟨hx.below h, hy.below h, hx'.below h, hy'.below h⟩
  clear hx hy hx' hy'
  by_cases e1 : xs = xs'
  · have d1 : decide (xs = xs') = true := by simpa using e1
    by_cases e2 : ys = ys'
    · have d2 : decide (ys = ys') = true := by simpa using e2
      have H : Hid (decide (xs = xs' ∧ ys = ys') = true) := hid (by rw [decide_eq_true_iff]; exact ⟨e1, e2⟩)
      clear e1 e2
      go_enter Tryz.func60, Tryz.ntmps60
      go_wp2_with (first | (go_at_call_of 61 (Value.slice ao n c); refine (eqIntS_any ao ao' n n' c c' xs xs' _ hn (by omega) (HX.out _ (below2 _ _ _)).1 (HX.out _ (below2 _ _ _)).2.2.1).mono ?_; rw [d1]; rintro e w' ⟨rfl, q, rfl⟩) | (go_at_call_of 61 (Value.slice bo m d); refine (eqIntS_any bo bo' m m' d d' ys ys' _ hm (by omega) (HX.out _ (belowDraws (below2 _ _ _) _)).2.1 (HX.out _ (belowDraws (below2 _ _ _) _)).2.2.2).mono ?_; rw [d2]; rintro e w' ⟨rfl, q2, rfl⟩))
      go_ret
      exact ⟨ret_bool H.out.symm, by first | exact belowDraws (belowDraws (below2 _ _ _) _) _ | exact belowDraws (below2 _ _ _) _⟩
    · have d2 : decide (ys = ys') = false := by simpa using e2
      have H : Hid (decide (xs = xs' ∧ ys = ys') = false) := hid (by rw [decide_eq_false_iff_not]; exact fun h => e2 h.2)
      clear e1 e2
      go_enter Tryz.func60, Tryz.ntmps60
      go_wp2_with (first | (go_at_call_of 61 (Value.slice ao n c); refine (eqIntS_any ao ao' n n' c c' xs xs' _ hn (by omega) (HX.out _ (below2 _ _ _)).1 (HX.out _ (below2 _ _ _)).2.2.1).mono ?_; rw [d1]; rintro e w' ⟨rfl, q, rfl⟩) | (go_at_call_of 61 (Value.slice bo m d); refine (eqIntS_any bo bo' m m' d d' ys ys' _ hm (by omega) (HX.out _ (belowDraws (below2 _ _ _) _)).2.1 (HX.out _ (belowDraws (below2 _ _ _) _)).2.2.2).mono ?_; rw [d2]; rintro e w' ⟨rfl, q2, rfl⟩))
      go_ret
      exact ⟨ret_bool H.out.symm, by first | exact belowDraws (belowDraws (below2 _ _ _) _) _ | exact belowDraws (below2 _ _ _) _⟩
  · have d1 : decide (xs = xs') = false := by simpa using e1
    have H : Hid (decide (xs = xs' ∧ ys = ys') = false) := hid (by rw [decide_eq_false_iff_not]; exact fun h => e1 h.1)
    clear e1
    go_enter Tryz.func60, Tryz.ntmps60
    go_wp2_with (first | (go_at_call_of 61 (Value.slice ao n c); refine (eqIntS_any ao ao' n n' c c' xs xs' _ hn (by omega) (HX.out _ (below2 _ _ _)).1 (HX.out _ (below2 _ _ _)).2.2.1).mono ?_; rw [d1]; rintro e w' ⟨rfl, q, rfl⟩))
    go_ret
    exact ⟨ret_bool H.out.symm, by first | exact belowDraws (belowDraws (below2 _ _ _) _) _ | exact belowDraws (below2 _ _ _) _⟩

end Go.Proofs.YtbcjlpjohknljaaGreatDoor
namespace Go.Proofs.YtbcjlpjohknljaaGreatDoor
open Go.RowKit Go.Sort

/-- An object as data. -/
structure ObD where
  prio : Int
  qcap : Int
  dcap : Int
  kinds : List Int
  vals : List Int
  subs : List Int
  sts : List StD
  trs : List TrD
def ob0 : ObD := ⟨0, 0, 0, [], [], [], [], []⟩
/-- Where the five lists of an object lie. -/
structure ObS where
  ko : Option Addr
  kn : Nat
  kc : Nat
  vo : Option Addr
  vn : Nat
  vc : Nat
  uo : Option Addr
  un : Nat
  uc : Nat
  so : Option Addr
  sn : Nat
  sc : Nat
  to : Option Addr
  tn : Nat
  tc : Nat
structure ObOf (w : World) (h : ObS) (x : ObD) : Prop where
  hk : SliceOf w h.ko h.kn x.kinds
  hv : SliceOf w h.vo h.vn x.vals
  hu : SliceOf w h.uo h.un x.subs
  hs : StatesOf w h.so h.sn x.sts
  ht : TransOf w h.to h.tn x.trs
structure ObMax (h : ObS) : Prop where
  hk : h.kn ≤ 9223372036854775807
  hv : h.vn ≤ 9223372036854775807
  hu : h.un ≤ 9223372036854775807
  hs : h.sn ≤ 9223372036854775807
  ht : h.tn ≤ 9223372036854775807
  hc : h.un ≤ h.uc
theorem ObOf.below {w w' : World} {h : ObS} {x : ObD} (k : ObOf w h x) (hb : Below w.heap.size w w') : ObOf w' h x := ⟨k.hk.below hb, k.hv.below hb, k.hu.below hb, k.hs.below hb, k.ht.below hb⟩
/-- Its eight cells. -/
structure ObCells (w : World) (b o : Nat) (p q d : Int) (h : ObS) : Prop where
  c0 : w.cell? ⟨b, o, none⟩ = some (.int .i64 p)
  c1 : w.cell? ⟨b, o + 1, none⟩ = some (.int .i64 q)
  c2 : w.cell? ⟨b, o + 2, none⟩ = some (.int .i64 d)
  c3 : w.cell? ⟨b, o + 3, none⟩ = some (.slice h.ko h.kn h.kc)
  c4 : w.cell? ⟨b, o + 4, none⟩ = some (.slice h.vo h.vn h.vc)
  c5 : w.cell? ⟨b, o + 5, none⟩ = some (.slice h.uo h.un h.uc)
  c6 : w.cell? ⟨b, o + 6, none⟩ = some (.slice h.so h.sn h.sc)
  c7 : w.cell? ⟨b, o + 7, none⟩ = some (.slice h.to h.tn h.tc)
theorem ObCells.below {w w' : World} {b o : Nat} {p q d : Int} {h : ObS} {B : Nat} (k : ObCells w b o p q d h) (hlt : b < B) (hb : Below B w w') : ObCells w' b o p q d h :=
  ⟨(hb.cell (p := ⟨b, o, none⟩) hlt).trans k.c0, (hb.cell (p := ⟨b, o + 1, none⟩) hlt).trans k.c1, (hb.cell (p := ⟨b, o + 2, none⟩) hlt).trans k.c2, (hb.cell (p := ⟨b, o + 3, none⟩) hlt).trans k.c3, (hb.cell (p := ⟨b, o + 4, none⟩) hlt).trans k.c4, (hb.cell (p := ⟨b, o + 5, none⟩) hlt).trans k.c5, (hb.cell (p := ⟨b, o + 6, none⟩) hlt).trans k.c6, (hb.cell (p := ⟨b, o + 7, none⟩) hlt).trans k.c7⟩
def ObAt (w : World) (b o : Nat) (x : ObD) : Prop := ∃ h, ObCells w b o x.prio x.qcap x.dcap h ∧ ObMax h ∧ ObOf w h x
def ObsOf (w : World) (ao : Option Addr) (n : Nat) (os : List ObD) : Prop :=
  os.length = n ∧ (0 < n → ∃ b off, ao = some ⟨b, off, none⟩ ∧ b < w.heap.size ∧ ∀ i, i < n → ObAt w b (off + i * 8) (os.getD i ob0))
theorem ObAt.below {w w' : World} {b o : Nat} {x : ObD} (h : ObAt w b o x) (hlt : b < w.heap.size) (hb : Below w.heap.size w w') : ObAt w' b o x := by
  obtain ⟨s, h1, h2, h3⟩ := h
  exact ⟨s, h1.below hlt hb, h2, h3.below hb⟩
theorem ObsOf.below {w w' : World} {ao : Option Addr} {n : Nat} {os : List ObD} (h : ObsOf w ao n os) (hb : Below w.heap.size w w') : ObsOf w' ao n os :=
  ⟨h.1, fun hn => by
    obtain ⟨b, off, e, hlt, hc⟩ := h.2 hn
    exact ⟨b, off, e, Nat.lt_of_lt_of_le hlt hb.size, fun i hi => (hc i hi).below hlt hb⟩⟩
theorem eight_cells {w : World} {H : Nat} {a b c d e f g h : Value} {t : TypeId} (k : w.heap[H]? = some (.cells #[a, b, c, d, e, f, g, h] t (0, 0))) : w.cell? ⟨H, 0, none⟩ = some a ∧ w.cell? ⟨H, 1, none⟩ = some b ∧ w.cell? ⟨H, 2, none⟩ = some c ∧ w.cell? ⟨H, 3, none⟩ = some d ∧ w.cell? ⟨H, 4, none⟩ = some e ∧ w.cell? ⟨H, 5, none⟩ = some f ∧ w.cell? ⟨H, 6, none⟩ = some g ∧ w.cell? ⟨H, 7, none⟩ = some h := by
  simp [World.cell?, k]

/-- An object's value. -/
def obV (p q d : Int) (h : ObS) : Value := .agg #[.int .i64 p, .int .i64 q, .int .i64 d, .slice h.ko h.kn h.kc, .slice h.vo h.vn h.vc, .slice h.uo h.un h.uc, .slice h.so h.sn h.sc, .slice h.to h.tn h.tc]

theorem three_cells {w : World} {H : Nat} {a b c : Value} {t : TypeId} (k : w.heap[H]? = some (.cells #[a, b, c] t (0, 0))) : w.cell? ⟨H, 0, none⟩ = some a ∧ w.cell? ⟨H, 1, none⟩ = some b ∧ w.cell? ⟨H, 2, none⟩ = some c := by
  simp [World.cell?, k]

end Go.Proofs.YtbcjlpjohknljaaGreatDoor
