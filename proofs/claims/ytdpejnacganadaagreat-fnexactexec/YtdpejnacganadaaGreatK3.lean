import Derived.Test.YtdpejnacganadaaGreatK2
namespace Go.Proofs.YtdpejnacganadaaGreat
open Go.RowKit Go.Sort

/-- A state, a transition, as data. -/
structure StD where
  parent : Int
  initial : Int
  entry : List StmD
  exit : List StmD
def st0 : StD := ⟨0, 0, [], []⟩
structure TrD where
  src : Int
  sig : Int
  guard : List (Int × Int)
  target : Int
  action : List StmD
def tr0 : TrD := ⟨0, 0, [], 0, []⟩

def StAt (w : World) (b o : Nat) (s : StD) : Prop :=
  w.cell? ⟨b, o, none⟩ = some (.int .i64 s.parent) ∧ w.cell? ⟨b, o + 1, none⟩ = some (.int .i64 s.initial) ∧
    (∃ co cn cc, w.cell? ⟨b, o + 2, none⟩ = some (.slice co cn cc) ∧ cn ≤ 9223372036854775807 ∧ StmsOf w co cn s.entry) ∧
    ∃ co cn cc, w.cell? ⟨b, o + 3, none⟩ = some (.slice co cn cc) ∧ cn ≤ 9223372036854775807 ∧ StmsOf w co cn s.exit
def StatesOf (w : World) (ao : Option Addr) (n : Nat) (ss : List StD) : Prop :=
  ss.length = n ∧ (0 < n → ∃ b off, ao = some ⟨b, off, none⟩ ∧ b < w.heap.size ∧ ∀ i, i < n → StAt w b (off + i * 4) (ss.getD i st0))
def TrAt (w : World) (b o : Nat) (s : TrD) : Prop :=
  w.cell? ⟨b, o, none⟩ = some (.int .i64 s.src) ∧ w.cell? ⟨b, o + 1, none⟩ = some (.int .i64 s.sig) ∧
    (∃ co cn cc, w.cell? ⟨b, o + 2, none⟩ = some (.slice co cn cc) ∧ cn ≤ 9223372036854775807 ∧ ItemsOf w co cn s.guard) ∧ w.cell? ⟨b, o + 3, none⟩ = some (.int .i64 s.target) ∧
    ∃ co cn cc, w.cell? ⟨b, o + 4, none⟩ = some (.slice co cn cc) ∧ cn ≤ 9223372036854775807 ∧ StmsOf w co cn s.action
def TransOf (w : World) (ao : Option Addr) (n : Nat) (ss : List TrD) : Prop :=
  ss.length = n ∧ (0 < n → ∃ b off, ao = some ⟨b, off, none⟩ ∧ b < w.heap.size ∧ ∀ i, i < n → TrAt w b (off + i * 5) (ss.getD i tr0))

theorem StAt.below {w w' : World} {b o : Nat} {s : StD} (h : StAt w b o s) (hlt : b < w.heap.size) (hb : Below w.heap.size w w') : StAt w' b o s := by
  obtain ⟨h1, h2, ⟨co, cn, cc, h4, h5, h6⟩, ⟨do_, dn, dc, h7, h8, h9⟩⟩ := h
  exact ⟨(hb.cell (p := ⟨b, o, none⟩) hlt).trans h1, (hb.cell (p := ⟨b, o + 1, none⟩) hlt).trans h2, ⟨co, cn, cc, (hb.cell (p := ⟨b, o + 2, none⟩) hlt).trans h4, h5, h6.below hb⟩, ⟨do_, dn, dc, (hb.cell (p := ⟨b, o + 3, none⟩) hlt).trans h7, h8, h9.below hb⟩⟩
theorem StatesOf.below {w w' : World} {ao : Option Addr} {n : Nat} {ss : List StD} (h : StatesOf w ao n ss) (hb : Below w.heap.size w w') : StatesOf w' ao n ss :=
  ⟨h.1, fun hn => by
    obtain ⟨b, off, e, hlt, hc⟩ := h.2 hn
    exact ⟨b, off, e, Nat.lt_of_lt_of_le hlt hb.size, fun i hi => (hc i hi).below hlt hb⟩⟩
theorem TrAt.below {w w' : World} {b o : Nat} {s : TrD} (h : TrAt w b o s) (hlt : b < w.heap.size) (hb : Below w.heap.size w w') : TrAt w' b o s := by
  obtain ⟨h1, h2, ⟨co, cn, cc, h4, h5, h6⟩, h3, ⟨do_, dn, dc, h7, h8, h9⟩⟩ := h
  exact ⟨(hb.cell (p := ⟨b, o, none⟩) hlt).trans h1, (hb.cell (p := ⟨b, o + 1, none⟩) hlt).trans h2, ⟨co, cn, cc, (hb.cell (p := ⟨b, o + 2, none⟩) hlt).trans h4, h5, h6.below hb⟩, (hb.cell (p := ⟨b, o + 3, none⟩) hlt).trans h3, ⟨do_, dn, dc, (hb.cell (p := ⟨b, o + 4, none⟩) hlt).trans h7, h8, h9.below hb⟩⟩
theorem TransOf.below {w w' : World} {ao : Option Addr} {n : Nat} {ss : List TrD} (h : TransOf w ao n ss) (hb : Below w.heap.size w w') : TransOf w' ao n ss :=
  ⟨h.1, fun hn => by
    obtain ⟨b, off, e, hlt, hc⟩ := h.2 hn
    exact ⟨b, off, e, Nat.lt_of_lt_of_le hlt hb.size, fun i hi => (hc i hi).below hlt hb⟩⟩

def wSt (s : StD) : Nat := wStms s.entry + wStms s.exit
def wStates (ss : List StD) : Nat := ss.length + sumTo (fun i => wSt (ss.getD i st0)) ss.length
def wTr (s : TrD) : Nat := s.guard.length + wStms s.action
def wTrans (ss : List TrD) : Nat := ss.length + sumTo (fun i => wTr (ss.getD i tr0)) ss.length

theorem szOut_no {l : Int} {a : Nat} (h : l < a) : szOut l a = -1 := if_pos h
theorem szOut_yes {l : Int} {a : Nat} (h : ¬ l < a) : szOut l a = l - a := if_neg h
theorem five_cells {w : World} {H : Nat} {a b c d e : Value} {t : TypeId} (h : w.heap[H]? = some (.cells #[a, b, c, d, e] t (0, 0))) : w.cell? ⟨H, 0, none⟩ = some a ∧ w.cell? ⟨H, 1, none⟩ = some b ∧ w.cell? ⟨H, 2, none⟩ = some c ∧ w.cell? ⟨H, 3, none⟩ = some d ∧ w.cell? ⟨H, 4, none⟩ = some e := by
  simp [World.cell?, h]
theorem two_cells {w : World} {H : Nat} {a b : Value} {t : TypeId} (h : w.heap[H]? = some (.cells #[a, b] t (0, 0))) : w.cell? ⟨H, 0, none⟩ = some a ∧ w.cell? ⟨H, 1, none⟩ = some b := by
  simp [World.cell?, h]

end Go.Proofs.YtdpejnacganadaaGreat
