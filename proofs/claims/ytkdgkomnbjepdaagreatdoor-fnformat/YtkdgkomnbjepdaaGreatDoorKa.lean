import Derived.Test.YtkdgkomnbjepdaaGreatDoorProg
import Derived.WalkKit
import Derived.WalkSpells
import Derived.WalkLawsBesides
import Derived.Deep.OwnRows
import Derived.Deep.QuietTactic
import Derived.BigQuiet
import Derived.Lib.QuietBelow
import Derived.Laws.EntriesVeiled
import Derived.Deep.RegionWith
import Derived.Deep.DrawnRows
import Derived.Maps.AppendAt
namespace Go.Proofs.YtkdgkomnbjepdaaGreatDoor
open Go.RowKit Go.Sort
theorem ret_int {k : IntKind} {a b : Int} (h : a = b) : Ending.returned (.int k a) = .returned (.int k b) := by rw [h]
theorem ret_bool {a b : Bool} (h : a = b) : Ending.returned (.bool a) = .returned (.bool b) := by rw [h]
theorem below1 (w : World) (o1 : Obj) : Below w.heap.size w (w.alloc o1) := (Below.refl _ _).alloc (Nat.le_refl _) o1
theorem below2 (w : World) (o1 o2 : Obj) : Below w.heap.size w ((w.alloc o1).alloc o2) := (below1 w o1).alloc (by simp) o2
theorem below3 (w : World) (o1 o2 o3 : Obj) : Below w.heap.size w (((w.alloc o1).alloc o2).alloc o3) := (below2 w o1 o2).alloc (by simp; omega) o3
theorem hid {p : Prop} (h : p) : Hid p := h
theorem belowDraws {B : Nat} {w w' : World} (h : Below B w w') (n : Nat) : Below B w (w'.drewN n) := ⟨h.os,h.tape,h.output,h.size,h.block⟩
theorem quad_cells {w : World} {H : Nat} {a b c d : Value} {t : TypeId} (h : w.heap[H]? = some (.cells #[a,b,c,d] t (0,0))) : w.cell? ⟨H,0,none⟩ = some a ∧ w.cell? ⟨H,1,none⟩ = some b ∧ w.cell? ⟨H,2,none⟩ = some c ∧ w.cell? ⟨H,3,none⟩ = some d := by
 simp [World.cell?,h]
theorem block_below {w w' : World} {H : Nat} {ob : Obj} (h : w.heap[H]? = some ob) (hb : Below w.heap.size w w') : w'.heap[H]? = some ob := (hb.block _ (lt_of_block h)).trans h
theorem ret_two {a b c d : Int} (h1 : a = c) (h2 : b = d) : Ending.returned (.tuple #[.int .i64 a,.int .i64 b]) = .returned (.tuple #[.int .i64 c,.int .i64 d]) := by rw [h1,h2]
theorem ownsRow_below {w w' : World} {base : Nat} {e : TypeId} {size : Nat} {v : Value} {n : Nat} {xs : List Value} (h : w.ownsRow base e size v n xs) (hb : Below w.heap.size w w') : w'.ownsRow base e size v n xs := by
 refine ⟨h.1,?_⟩
 rcases h.2 with h0 | ⟨g,cap,cur,h1,h2,h3,h4⟩
 ·exact .inl h0
 ·exact .inr ⟨g,cap,cur,h1,h2,(hb.block _ (lt_of_block h3)).trans h3,h4⟩
theorem grown_block {w w' : World} {row : Option Nat} (h : w.grownBy w' row) {k : Nat} (hk : k < w.heap.size) (hr : row ≠ some k) : w'.heap[k]? = w.heap[k]? := h.block k hk (fun e => hr e.symm)
def SliceOf (w : World) (ao : Option Addr) (n : Nat) (zs : List Int) : Prop :=
 zs.length = n ∧ (0 < n → ∃ b off,ao = some ⟨b,off,none⟩ ∧ b < w.heap.size ∧ ∀ i,i < n → w.cell? ⟨b,off + i,none⟩ = some (.int .i64 (zs.getD i 0)))
theorem SliceOf.below {w w' : World} {ao : Option Addr} {n : Nat} {zs : List Int} (h : SliceOf w ao n zs) (hb : Below w.heap.size w w') : SliceOf w' ao n zs :=
 ⟨h.1,fun hn => by
  obtain ⟨b,off,e,hlt,hc⟩ := h.2 hn
  exact ⟨b,off,e,Nat.lt_of_lt_of_le hlt hb.size,fun i hi => (hb.cell (p := ⟨b,off + i,none⟩) hlt).trans (hc i hi)⟩⟩
def betB (x lo hi : Int) : Bool := decide (lo ≤ x ∧ x ≤ hi)
set_option maxHeartbeats 400000 in
theorem within_any (n c : Int) (w : World) : Calls Tryz.prog 25 #[.int .i64 n,.int .i64 c] w fun e w' => e = .returned (.bool (decide (0 ≤ n ∧ n < c))) ∧ w' = w := by
 by_cases h1 : 0 ≤ n <;> by_cases h7 : n < c
 all_goals
  go_enter Tryz.func25,Tryz.ntmps25
  go_wp2
  go_ret
  exact ⟨ret_bool (by simp; omega),rfl⟩
def ItemsOf (w : World) (ao : Option Addr) (n : Nat) (its : List (Int × Int)) : Prop :=
 its.length = n ∧ (0 < n → ∃ b off,ao = some ⟨b,off,none⟩ ∧ b < w.heap.size ∧ ∀ i,i < n → w.cell? ⟨b,off + i * 2,none⟩ = some (.int .i64 (its.getD i (0,0)).1) ∧ w.cell? ⟨b,off + i * 2 + 1,none⟩ = some (.int .i64 (its.getD i (0,0)).2))
theorem ItemsOf.below {w w' : World} {ao : Option Addr} {n : Nat} {its : List (Int × Int)} (h : ItemsOf w ao n its) (hb : Below w.heap.size w w') : ItemsOf w' ao n its :=
 ⟨h.1,fun hn => by
  obtain ⟨b,off,e,hlt,hc⟩ := h.2 hn
  exact ⟨b,off,e,Nat.lt_of_lt_of_le hlt hb.size,fun i hi => ⟨(hb.cell (p := ⟨b,off + i * 2,none⟩) hlt).trans (hc i hi).1,(hb.cell (p := ⟨b,off + i * 2 + 1,none⟩) hlt).trans (hc i hi).2⟩⟩⟩
structure LimD where
 o : Int
 s : Int
 t : Int
 v : Int
abbrev limP (l : LimD) : Prop := (0 ≤ l.o ∧ l.o ≤ 64) ∧ (0 ≤ l.s ∧ l.s ≤ 64) ∧ (0 ≤ l.t ∧ l.t ≤ 200) ∧ (0 ≤ l.v ∧ l.v ≤ 32)
def limB (l : LimD) : Bool := decide (limP l)
end Go.Proofs.YtkdgkomnbjepdaaGreatDoor
namespace Go.Proofs.YtkdgkomnbjepdaaGreatDoor
open Go.RowKit Go.Sort
set_option maxHeartbeats 1600000 in
theorem limitsOK_any (o s t v : Int) (w : World) : Calls Tryz.prog 125 #[.agg #[.int .i64 o,.int .i64 s,.int .i64 t,.int .i64 v]] w fun e w' => e = .returned (.bool (limB ⟨o,s,t,v⟩)) ∧ Below w.heap.size w w' := by
 by_cases h0 : 0 ≤ o
 case neg =>
  have d : decide (0 ≤ o) = false := by simpa using h0
  have E : Hid (limB ⟨o,s,t,v⟩ = false) := hid (by unfold limB; rw [decide_eq_false_iff_not]; unfold limP; simp only; omega)
  go_enter Tryz.func125,Tryz.ntmps125
  go_wp2
  go_ret
  exact ⟨ret_bool E.out.symm,below1 _ _⟩
 by_cases h1 : o ≤ 64
 case neg =>
  have d : decide (o ≤ 64) = false := by simpa using h1
  have E : Hid (limB ⟨o,s,t,v⟩ = false) := hid (by unfold limB; rw [decide_eq_false_iff_not]; unfold limP; simp only; omega)
  go_enter Tryz.func125,Tryz.ntmps125
  go_wp2
  go_ret
  exact ⟨ret_bool E.out.symm,below1 _ _⟩
 by_cases h2 : 0 ≤ s
 case neg =>
  have d : decide (0 ≤ s) = false := by simpa using h2
  have E : Hid (limB ⟨o,s,t,v⟩ = false) := hid (by unfold limB; rw [decide_eq_false_iff_not]; unfold limP; simp only; omega)
  go_enter Tryz.func125,Tryz.ntmps125
  go_wp2
  go_ret
  exact ⟨ret_bool E.out.symm,below1 _ _⟩
 by_cases h3 : s ≤ 64
 case neg =>
  have d : decide (s ≤ 64) = false := by simpa using h3
  have E : Hid (limB ⟨o,s,t,v⟩ = false) := hid (by unfold limB; rw [decide_eq_false_iff_not]; unfold limP; simp only; omega)
  go_enter Tryz.func125,Tryz.ntmps125
  go_wp2
  go_ret
  exact ⟨ret_bool E.out.symm,below1 _ _⟩
 by_cases h4 : 0 ≤ t
 case neg =>
  have d : decide (0 ≤ t) = false := by simpa using h4
  have E : Hid (limB ⟨o,s,t,v⟩ = false) := hid (by unfold limB; rw [decide_eq_false_iff_not]; unfold limP; simp only; omega)
  go_enter Tryz.func125,Tryz.ntmps125
  go_wp2
  go_ret
  exact ⟨ret_bool E.out.symm,below1 _ _⟩
 by_cases h5 : t ≤ 200
 case neg =>
  have d : decide (t ≤ 200) = false := by simpa using h5
  have E : Hid (limB ⟨o,s,t,v⟩ = false) := hid (by unfold limB; rw [decide_eq_false_iff_not]; unfold limP; simp only; omega)
  go_enter Tryz.func125,Tryz.ntmps125
  go_wp2
  go_ret
  exact ⟨ret_bool E.out.symm,below1 _ _⟩
 by_cases h6 : 0 ≤ v
 case neg =>
  have d : decide (0 ≤ v) = false := by simpa using h6
  have E : Hid (limB ⟨o,s,t,v⟩ = false) := hid (by unfold limB; rw [decide_eq_false_iff_not]; unfold limP; simp only; omega)
  go_enter Tryz.func125,Tryz.ntmps125
  go_wp2
  go_ret
  exact ⟨ret_bool E.out.symm,below1 _ _⟩
 by_cases h7 : v ≤ 32
 case neg =>
  have d : decide (v ≤ 32) = false := by simpa using h7
  have E : Hid (limB ⟨o,s,t,v⟩ = false) := hid (by unfold limB; rw [decide_eq_false_iff_not]; unfold limP; simp only; omega)
  go_enter Tryz.func125,Tryz.ntmps125
  go_wp2
  go_ret
  exact ⟨ret_bool E.out.symm,below1 _ _⟩
 have E : Hid (limB ⟨o,s,t,v⟩ = true) := hid (by unfold limB; rw [decide_eq_true_iff]; unfold limP; simp only; omega)
 go_enter Tryz.func125,Tryz.ntmps125
 go_wp2
 go_ret
 exact ⟨ret_bool E.out.symm,below1 _ _⟩
end Go.Proofs.YtkdgkomnbjepdaaGreatDoor
namespace Go.Proofs.YtkdgkomnbjepdaaGreatDoor
open Go.RowKit Go.Sort
structure StmD where
 kind : Int
 a : Int
 b : Int
 code : List (Int × Int)
def stm0 : StmD := ⟨0,0,0,[]⟩
def StmAt (w : World) (b o : Nat) (s : StmD) : Prop :=
 w.cell? ⟨b,o,none⟩ = some (.int .i64 s.kind) ∧ w.cell? ⟨b,o + 1,none⟩ = some (.int .i64 s.a) ∧ w.cell? ⟨b,o + 2,none⟩ = some (.int .i64 s.b) ∧
  ∃ co cn cc,w.cell? ⟨b,o + 3,none⟩ = some (.slice co cn cc) ∧ cn ≤ 9223372036854775807 ∧ ItemsOf w co cn s.code
def StmsOf (w : World) (ao : Option Addr) (n : Nat) (ss : List StmD) : Prop :=
 ss.length = n ∧ (0 < n → ∃ b off,ao = some ⟨b,off,none⟩ ∧ b < w.heap.size ∧ ∀ i,i < n → StmAt w b (off + i * 4) (ss.getD i stm0))
theorem StmAt.below {w w' : World} {b o : Nat} {s : StmD} (h : StmAt w b o s) (hlt : b < w.heap.size) (hb : Below w.heap.size w w') : StmAt w' b o s := by
 obtain ⟨h1,h2,h3,co,cn,cc,h4,h5,h6⟩ := h
 exact ⟨(hb.cell (p := ⟨b,o,none⟩) hlt).trans h1,(hb.cell (p := ⟨b,o + 1,none⟩) hlt).trans h2,(hb.cell (p := ⟨b,o + 2,none⟩) hlt).trans h3,co,cn,cc,(hb.cell (p := ⟨b,o + 3,none⟩) hlt).trans h4,h5,h6.below hb⟩
theorem StmsOf.below {w w' : World} {ao : Option Addr} {n : Nat} {ss : List StmD} (h : StmsOf w ao n ss) (hb : Below w.heap.size w w') : StmsOf w' ao n ss :=
 ⟨h.1,fun hn => by
  obtain ⟨b,off,e,hlt,hc⟩ := h.2 hn
  exact ⟨b,off,e,Nat.lt_of_lt_of_le hlt hb.size,fun i hi => (hc i hi).below hlt hb⟩⟩
theorem infoStm : (Tryz.prog.info? 105).map (fun i => (i.zero,i.size,i.bytes)) = some (some (.agg #[.int .i64 0,.int .i64 0,.int .i64 0,.slice none 0 0]),4,48) := by kernel_rfl
theorem below_set {w w1 : World} {H o : Nat} {v : Value} (h : Below w.heap.size w w1) (hH : w.heap.size ≤ H) : Below w.heap.size w (w1.setCell ⟨H,o,none⟩ v) := h.setCell hH _
end Go.Proofs.YtkdgkomnbjepdaaGreatDoor
namespace Go.Proofs.YtkdgkomnbjepdaaGreatDoor
open Go.RowKit Go.Sort
structure StD where
 parent : Int
 initial : Int
 entry : List StmD
 exit : List StmD
def st0 : StD := ⟨0,0,[],[]⟩
structure TrD where
 src : Int
 sig : Int
 guard : List (Int × Int)
 target : Int
 action : List StmD
def tr0 : TrD := ⟨0,0,[],0,[]⟩
def StAt (w : World) (b o : Nat) (s : StD) : Prop :=
 w.cell? ⟨b,o,none⟩ = some (.int .i64 s.parent) ∧ w.cell? ⟨b,o + 1,none⟩ = some (.int .i64 s.initial) ∧
  (∃ co cn cc,w.cell? ⟨b,o + 2,none⟩ = some (.slice co cn cc) ∧ cn ≤ 9223372036854775807 ∧ StmsOf w co cn s.entry) ∧
  ∃ co cn cc,w.cell? ⟨b,o + 3,none⟩ = some (.slice co cn cc) ∧ cn ≤ 9223372036854775807 ∧ StmsOf w co cn s.exit
def StatesOf (w : World) (ao : Option Addr) (n : Nat) (ss : List StD) : Prop :=
 ss.length = n ∧ (0 < n → ∃ b off,ao = some ⟨b,off,none⟩ ∧ b < w.heap.size ∧ ∀ i,i < n → StAt w b (off + i * 4) (ss.getD i st0))
def TrAt (w : World) (b o : Nat) (s : TrD) : Prop :=
 w.cell? ⟨b,o,none⟩ = some (.int .i64 s.src) ∧ w.cell? ⟨b,o + 1,none⟩ = some (.int .i64 s.sig) ∧
  (∃ co cn cc,w.cell? ⟨b,o + 2,none⟩ = some (.slice co cn cc) ∧ cn ≤ 9223372036854775807 ∧ ItemsOf w co cn s.guard) ∧ w.cell? ⟨b,o + 3,none⟩ = some (.int .i64 s.target) ∧
  ∃ co cn cc,w.cell? ⟨b,o + 4,none⟩ = some (.slice co cn cc) ∧ cn ≤ 9223372036854775807 ∧ StmsOf w co cn s.action
def TransOf (w : World) (ao : Option Addr) (n : Nat) (ss : List TrD) : Prop :=
 ss.length = n ∧ (0 < n → ∃ b off,ao = some ⟨b,off,none⟩ ∧ b < w.heap.size ∧ ∀ i,i < n → TrAt w b (off + i * 5) (ss.getD i tr0))
theorem StAt.below {w w' : World} {b o : Nat} {s : StD} (h : StAt w b o s) (hlt : b < w.heap.size) (hb : Below w.heap.size w w') : StAt w' b o s := by
 obtain ⟨h1,h2,⟨co,cn,cc,h4,h5,h6⟩,⟨do_,dn,dc,h7,h8,h9⟩⟩ := h
 exact ⟨(hb.cell (p := ⟨b,o,none⟩) hlt).trans h1,(hb.cell (p := ⟨b,o + 1,none⟩) hlt).trans h2,⟨co,cn,cc,(hb.cell (p := ⟨b,o + 2,none⟩) hlt).trans h4,h5,h6.below hb⟩,⟨do_,dn,dc,(hb.cell (p := ⟨b,o + 3,none⟩) hlt).trans h7,h8,h9.below hb⟩⟩
theorem StatesOf.below {w w' : World} {ao : Option Addr} {n : Nat} {ss : List StD} (h : StatesOf w ao n ss) (hb : Below w.heap.size w w') : StatesOf w' ao n ss :=
 ⟨h.1,fun hn => by
  obtain ⟨b,off,e,hlt,hc⟩ := h.2 hn
  exact ⟨b,off,e,Nat.lt_of_lt_of_le hlt hb.size,fun i hi => (hc i hi).below hlt hb⟩⟩
theorem TrAt.below {w w' : World} {b o : Nat} {s : TrD} (h : TrAt w b o s) (hlt : b < w.heap.size) (hb : Below w.heap.size w w') : TrAt w' b o s := by
 obtain ⟨h1,h2,⟨co,cn,cc,h4,h5,h6⟩,h3,⟨do_,dn,dc,h7,h8,h9⟩⟩ := h
 exact ⟨(hb.cell (p := ⟨b,o,none⟩) hlt).trans h1,(hb.cell (p := ⟨b,o + 1,none⟩) hlt).trans h2,⟨co,cn,cc,(hb.cell (p := ⟨b,o + 2,none⟩) hlt).trans h4,h5,h6.below hb⟩,(hb.cell (p := ⟨b,o + 3,none⟩) hlt).trans h3,⟨do_,dn,dc,(hb.cell (p := ⟨b,o + 4,none⟩) hlt).trans h7,h8,h9.below hb⟩⟩
theorem TransOf.below {w w' : World} {ao : Option Addr} {n : Nat} {ss : List TrD} (h : TransOf w ao n ss) (hb : Below w.heap.size w w') : TransOf w' ao n ss :=
 ⟨h.1,fun hn => by
  obtain ⟨b,off,e,hlt,hc⟩ := h.2 hn
  exact ⟨b,off,e,Nat.lt_of_lt_of_le hlt hb.size,fun i hi => (hc i hi).below hlt hb⟩⟩
theorem five_cells {w : World} {H : Nat} {a b c d e : Value} {t : TypeId} (h : w.heap[H]? = some (.cells #[a,b,c,d,e] t (0,0))) : w.cell? ⟨H,0,none⟩ = some a ∧ w.cell? ⟨H,1,none⟩ = some b ∧ w.cell? ⟨H,2,none⟩ = some c ∧ w.cell? ⟨H,3,none⟩ = some d ∧ w.cell? ⟨H,4,none⟩ = some e := by
 simp [World.cell?,h]
theorem two_cells {w : World} {H : Nat} {a b : Value} {t : TypeId} (h : w.heap[H]? = some (.cells #[a,b] t (0,0))) : w.cell? ⟨H,0,none⟩ = some a ∧ w.cell? ⟨H,1,none⟩ = some b := by
 simp [World.cell?,h]
end Go.Proofs.YtkdgkomnbjepdaaGreatDoor
namespace Go.Proofs.YtkdgkomnbjepdaaGreatDoor
open Go.RowKit Go.Sort
def Fits (ss : List StmD) : Prop := ss.length ≤ 1048576 ∧ ∀ i,i < ss.length → (ss.getD i stm0).code.length ≤ 1048576
def FitsSt (ss : List StD) : Prop := ss.length ≤ 1048576 ∧ ∀ i,i < ss.length → Fits (ss.getD i st0).entry ∧ Fits (ss.getD i st0).exit
theorem infoState : (Tryz.prog.info? 71).map (fun i => (i.zero,i.size,i.bytes)) = some (some (.agg #[.int .i64 0,.int .i64 0,.slice none 0 0,.slice none 0 0]),4,64) := by kernel_rfl
end Go.Proofs.YtkdgkomnbjepdaaGreatDoor
namespace Go.Proofs.YtkdgkomnbjepdaaGreatDoor
open Go.RowKit Go.Sort
def FitsTr (ss : List TrD) : Prop := ss.length ≤ 1048576 ∧ ∀ i,i < ss.length → (ss.getD i tr0).guard.length ≤ 1048576 ∧ Fits (ss.getD i tr0).action
end Go.Proofs.YtkdgkomnbjepdaaGreatDoor
namespace Go.Proofs.YtkdgkomnbjepdaaGreatDoor
open Go.RowKit Go.Sort
attribute [local go_sem ↓] Go.wp_at_zero Go.wp_at_succ
end Go.Proofs.YtkdgkomnbjepdaaGreatDoor
