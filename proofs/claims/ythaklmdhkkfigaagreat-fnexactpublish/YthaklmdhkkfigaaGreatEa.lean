import Derived.Test.YthaklmdhkkfigaaGreatProg
import Derived.Conc.MuLib
import Derived.Conc.MuLone
import Derived.KernelRfl
import Derived.Test.YthaklmdhkkfigaaGreatKa
import Derived.Test.YthaklmdhkkfigaaGreatU3
import Derived.Laws.OwnMore
namespace Go.Proofs.YthaklmdhkkfigaaGreat
/-- Where this program holds the functions and types of sync.Mutex. -/
abbrev muLink : Go.Conc.Locks.MuLink := { lock := 102, unlock := 103, ilock := 130, iunlock := 131, lockSlow := 162, unlockSlow := 165, disable := 158, enable := 160, acquire := 161, relMerge := 163, cas32 := 159, add32 := 164, tMutex := 89, tIMutex := 87, tPMutex := 215, tPIMutex := 244, tPI32 := 246, tUP := 248, tNoCopy := 84, tU32 := 85 }
theorem muLib : Go.Conc.Locks.MuLib Tryz.prog muLink :=
  ⟨Tryz.func102, Tryz.func103, Tryz.func130, Tryz.func131, Tryz.func158, Tryz.func160, Tryz.func161, Tryz.func163, Tryz.func159, Tryz.func164, Tryz.underlying87, Tryz.runUnderlying87, Tryz.sizeOf87, Tryz.isAgg87, Tryz.zeroValue87, Tryz.underlying89, Tryz.runUnderlying89, Tryz.sizeOf89, Tryz.isAgg89, Tryz.zeroValue89, Tryz.underlying215, Tryz.runUnderlying215, Tryz.sizeOf215, Tryz.isAgg215, Tryz.zeroValue215, Tryz.underlying244, Tryz.runUnderlying244, Tryz.sizeOf244, Tryz.isAgg244, Tryz.zeroValue244, Tryz.underlying246, Tryz.runUnderlying246, Tryz.sizeOf246, Tryz.isAgg246, Tryz.zeroValue246, Tryz.underlying248, Tryz.runUnderlying248, Tryz.sizeOf248, Tryz.isAgg248, Tryz.zeroValue248, Tryz.underlying84, Tryz.runUnderlying84, Tryz.sizeOf84, Tryz.isAgg84, Tryz.zeroValue84, Tryz.underlying21, Tryz.runUnderlying21, Tryz.sizeOf21, Tryz.isAgg21, Tryz.zeroValue21, (by kernel_rfl)⟩
end Go.Proofs.YthaklmdhkkfigaaGreat
namespace Go.Proofs.YthaklmdhkkfigaaGreat
open Go.RowKit Go.Sort Go.MuLone
set_option linter.unusedVariables false
attribute [local go_sem ↓] Go.wp_at_zero Go.wp_at_succ

/-- Something is counted in a tally: its lock is free, before and behind. -/
theorem countPut_low (b o : Nat) (t d : Int) (w : World)
    (h0 : w.cell? ⟨b, o, none⟩ = some (.int .i32 0)) (h2 : w.cell? ⟨b, o + 2, none⟩ = some (.int .i64 t))
    (f0 : w.frozen? ⟨b, o, none⟩ = false) (f2 : w.frozen? ⟨b, o + 2, none⟩ = false) :
    Calls Tryz.prog 74 #[.pointer (some ⟨b, o, none⟩), .int .i64 d] w fun e w' => e = .returned (.tuple #[]) ∧
      w' = ((w.setCell ⟨b, o, none⟩ (.int .i32 1)).setCell ⟨b, o + 2, none⟩ (.int .i64 (wrap64 (t + d)))).setCell ⟨b, o, none⟩ (.int .i32 0) := by
  go_enter_defers Tryz.func74, Tryz.ntmps74
  go_wp2_with (go_at_call 102; refine (lock_free muLib ⟨b, o, none⟩ _ h0 f0).mono ?_; rintro e w' ⟨rfl, rfl⟩)
  refine leaves_cons (f := 103) (args := #[.pointer (some ⟨b, o, none⟩)]) (by simp) (by simp [go_sem]) ?_
  refine (unlock_deferred muLib ⟨b, o, none⟩ .returning _ ?_ ?_).mono ?_
  · exact (World.cell?_setCell_other _ ⟨b, o + 2, none⟩ ⟨b, o, none⟩ _ (by simp)).trans (World.cell?_setCell_same w ⟨b, o, none⟩ (.int .i32 1) h0)
  · simp [f0]
  rintro e u' w'' ⟨rfl, rfl, rfl⟩
  exact ⟨_, results_none rfl _ _ _, rfl, rfl⟩

def ringC (S cap : Nat) (f c : Int) : Array Value := #[.slice (some ⟨S, 0, none⟩) cap cap, .int .i64 f, .int .i64 c]
theorem ring_cells {w : World} {P S cap : Nat} {f c : Int} (h : w.heap[P]? = some (.cells (ringC S cap f c) 182 (0, 0))) : w.cell? ⟨P, 0, none⟩ = some (.slice (some ⟨S, 0, none⟩) cap cap) ∧ w.cell? ⟨P, 1, none⟩ = some (.int .i64 f) ∧ w.cell? ⟨P, 2, none⟩ = some (.int .i64 c) := by
  simp [World.cell?, h, ringC]

set_option maxHeartbeats 1600000 in
theorem slot_any (P S cap f k : Nat) (c : Int) (w : World) (hcap : 0 < cap) (hc : cap ≤ 1000) (hf : f < cap) (hk : k ≤ cap) (h : w.heap[P]? = some (.cells (ringC S cap f c) 182 (0, 0))) :
    Calls Tryz.prog 110 #[.pointer (some ⟨P, 0, none⟩), .int .i64 k] w fun e w' => e = .returned (.pointer (some ⟨S, (f + k) % cap * 2, none⟩)) ∧ ∃ q, w' = w.drewN q := by
  obtain ⟨c0, c1, c2⟩ := ring_cells h
  have hm : ((f : Int) + (k : Int)).tmod (cap : Int) = (((f + k) % cap : Nat) : Int) := by
    rw [Int.tmod_eq_emod_of_nonneg (by omega)]; push_cast; rfl
  have hl : (f + k) % cap < cap := Nat.mod_lt _ hcap
  obtain ⟨j, hj⟩ : ∃ j, j = (f + k) % cap := ⟨_, rfl⟩
  rw [← hj] at hm hl ⊢
  clear hj h
  go_enter Tryz.func110, Tryz.ntmps110
  go_wp2
  go_quiet (fail)
  go_wp2
  go_ret
  exact ⟨rfl, nq, rfl⟩

set_option maxHeartbeats 1600000 in
theorem isFull_any (P S cap f c : Nat) (b : Bool) (w : World) (hb : b = decide (c = cap)) (h : w.heap[P]? = some (.cells (ringC S cap f c) 182 (0, 0))) :
    Calls Tryz.prog 135 #[.pointer (some ⟨P, 0, none⟩)] w fun e w' => e = .returned (.bool b) ∧ ∃ q, w' = w.drewN q := by
  obtain ⟨c0, c1, c2⟩ := ring_cells h
  have e : ((c : Int) == (cap : Int)) = b := by
    rw [hb]
    by_cases hc : c = cap
    · subst hc; simp
    · have hc2 : ¬ (c : Int) = cap := by omega
      simp [hc, hc2]
  clear h hb
  go_enter Tryz.func135, Tryz.ntmps135
  go_wp2
  go_quiet (fail)
  go_wp2
  go_ret
  exact ⟨rfl, nq, rfl⟩

/-- What stands in a ring's slots. -/
def Slots (F : Nat → Value) (cap f : Nat) (es : List (Int × Int)) : Prop := ∀ j, j < es.length → F ((f + j) % cap * 2) = .int .i64 (es.getD j (0, 0)).1 ∧ F ((f + j) % cap * 2 + 1) = .int .i64 (es.getD j (0, 0)).2
/-- A ring of events that can hold cap: its box, its slots. -/
def RingAt (w : World) (B P S cap : Nat) (es : List (Int × Int)) : Prop :=
  B ≤ P ∧ B ≤ S ∧ es.length ≤ cap ∧ cap ≤ 1000 ∧ ∃ f F, w.heap[P]? = some (.cells (ringC S cap (f : Nat) (es.length : Nat)) 182 (0, 0)) ∧ w.rowIs S 70 (cap * 2) F ∧ (0 < cap → f < cap) ∧ Slots F cap f es
theorem RingAt.far {w : World} {B P S cap : Nat} {es : List (Int × Int)} (h : RingAt w B P S cap es) : P ≠ S := by
  obtain ⟨_, _, _, _, f, F, h1, h2, _⟩ := h
  rintro rfl
  obtain ⟨c, h2, _⟩ := h2
  rw [h1] at h2
  simp at h2
end Go.Proofs.YthaklmdhkkfigaaGreat
namespace Go.Proofs.YthaklmdhkkfigaaGreat
open Go.RowKit Go.Sort

/-- What is appended: it has an address, where it isn't empty. -/
def NewsAt (w : World) (ao : Option Addr) (m : Nat) (news : List Value) : Prop := (ao = none → m = 0) ∧ ∀ ad, ao = some ad → ∀ j u, news[j]? = some u → w.cell? (ad.add j) = some u
theorem run_append_none' {P : Program} (w : World) (base : Nat) (t ty e : TypeId) (i : TypeInfo) (size c : Nat) (ht : P.underlying t = some (.slice e)) (hi : P.info? e = some i)
    (v : Value) (n : Nat) (xs : List Value) (hown : w.ownsRow base e size v n xs) :
    (Builtin.append_ #[t, t] ty #[v, .slice none 0 c]).run P w = .ok v w := by
  rcases hown.2 with ⟨rfl, rfl⟩ | ⟨g, cap, cur, rfl, _, _, hnc, _⟩
  · simp [Builtin.append_, run_underlying ht, sizeOf, typeInfo, hi, Builtin.lenOf, Builtin.firstCells]
  · simp [Builtin.append_, run_underlying ht, sizeOf, typeInfo, hi, Builtin.lenOf, Builtin.firstCells, hnc, storeCells]
theorem wp_append_opt {P : Program} (w : World) {o : Oper} {a : Act} {K : Act → World → Prop} {Q : Exit → Act → World → Prop} (s x : Operand) (t : TypeId)
    (ho : o.op = .call { callee := .builtin .append, args := #[s, x], argTypes := #[t, t] })
    (base : Nat) (e : TypeId) (i : TypeInfo) (z : Value) (size bytes : Nat) (ht : P.underlying t = some (.slice e)) (hi : P.info? e = some i) (hz : i.zero = some z)
    (hsize : i.size = size) (hby : i.bytes = bytes) (hzs : z.cells.size = size) (hsz : 0 < size)
    (v : Value) (n : Nat) (xs : List Value) (hs : a.eval s = v) (hown : w.ownsRow base e size v n xs)
    (ao : Option Addr) (m c : Nat) (news : List Value) (hx : a.eval x = .slice ao m c) (hl : news.length = m * size) (hnews : NewsAt w ao m news) (h1 : ∀ u ∈ news, u.oneCell' = true)
    (h63 : n + m ≤ maxLen) (hbytes : (n + m) * bytes ≤ 140737488355328) (hbase : base ≤ w.heap.size)
    (h : ∀ v' w', w'.ownsRow base e size v' (n + m) (xs ++ news) → w.grownBy w' v.ownBlock → (v' = .slice none 0 0 ↔ v = .slice none 0 0 ∧ m = 0) → K (a.put o.dst v') w') : o.wp P a w K Q := by
  cases ao with
  | some ad => exact wp_append_own w s x t ho base e i z size bytes ht hi hz hsize hby hzs hsz v n xs hs hown ad m c news hx hl (hnews.2 ad rfl) h1 h63 hbytes hbase h
  | none =>
    obtain rfl : m = 0 := hnews.1 rfl
    obtain rfl : news = [] := List.length_eq_zero_iff.1 (by simpa using hl)
    have hr := run_append_none' (P := P) w base t o.type e i size c ht hi v n xs hown
    unfold Oper.wp execOp
    simp only [ho, resolve, invoke, builtin, Sem.run_bind, Sem.run_pure, Result.andThen_ok, List.map_toArray, List.map_cons, List.map_nil, hs, hx, hr]
    exact h v w (by simpa using hown) ⟨rfl, rfl, rfl, Nat.le_refl _, fun _ _ _ => rfl⟩ (by simp)
theorem wpList_append_opt {P : Program} (w : World) {ops : Array Oper} {rest : List Oper} {o : Oper} {a : Act} {Q : Exit → Act → World → Prop} (hgd : o.guard = none) (s x : Operand) (t : TypeId)
    (ho : o.op = .call { callee := .builtin .append, args := #[s, x], argTypes := #[t, t] })
    (base : Nat) (e : TypeId) (i : TypeInfo) (z : Value) (size bytes : Nat) (ht : P.underlying t = some (.slice e)) (hi : P.info? e = some i) (hz : i.zero = some z)
    (hsize : i.size = size) (hby : i.bytes = bytes) (hzs : z.cells.size = size) (hsz : 0 < size)
    (v : Value) (n : Nat) (xs : List Value) (hs : a.eval s = v) (hown : w.ownsRow base e size v n xs)
    (ao : Option Addr) (m c : Nat) (news : List Value) (hx : a.eval x = .slice ao m c) (hl : news.length = m * size) (hnews : NewsAt w ao m news) (h1 : ∀ u ∈ news, u.oneCell' = true)
    (h63 : n + m ≤ maxLen) (hbytes : (n + m) * bytes ≤ 140737488355328) (hbase : base ≤ w.heap.size)
    (h : ∀ v' w', w'.ownsRow base e size v' (n + m) (xs ++ news) → w.grownBy w' v.ownBlock → (v' = .slice none 0 0 ↔ v = .slice none 0 0 ∧ m = 0) → wpList P ops Q rest (a.put o.dst v') w') : wpList P ops Q (o :: rest) a w :=
  wpList_plain hgd fun _ hK => wp_append_opt w s x t ho base e i z size bytes ht hi hz hsize hby hzs hsz v n xs hs hown ao m c news hx hl hnews h1 h63 hbytes hbase fun v' w' h2 h3 h4 => hK _ _ (h v' w' h2 h3 h4)
theorem step_append_opt {P : Program} (w : World) {ops : Array Oper} {o : Oper} {a : Act} {K : Act → World → Prop} {Q : Exit → Act → World → Prop} {E : Prop} (hgd : o.guard = none) (s x : Operand) (t : TypeId)
    (ho : o.op = .call { callee := .builtin .append, args := #[s, x], argTypes := #[t, t] })
    (base : Nat) (e : TypeId) (i : TypeInfo) (z : Value) (size bytes : Nat) (ht : P.underlying t = some (.slice e)) (hi : P.info? e = some i) (hz : i.zero = some z)
    (hsize : i.size = size) (hby : i.bytes = bytes) (hzs : z.cells.size = size) (hsz : 0 < size)
    (v : Value) (n : Nat) (xs : List Value) (hs : a.eval s = v) (hown : w.ownsRow base e size v n xs)
    (ao : Option Addr) (m c : Nat) (news : List Value) (hx : a.eval x = .slice ao m c) (hl : news.length = m * size) (hnews : NewsAt w ao m news) (h1 : ∀ u ∈ news, u.oneCell' = true)
    (h63 : n + m ≤ maxLen) (hbytes : (n + m) * bytes ≤ 140737488355328) (hbase : base ≤ w.heap.size)
    (h : ∀ v' w', w'.ownsRow base e size v' (n + m) (xs ++ news) → w.grownBy w' v.ownBlock → (v' = .slice none 0 0 ↔ v = .slice none 0 0 ∧ m = 0) → K (a.put o.dst v') w') :
    if Region.wanted o (yielded ops a.tmps) = true then Oper.wp P o a w K Q else E := by
  have hw : Region.wanted o (yielded ops a.tmps) = true := by simp [Region.wanted, hgd]
  rw [if_pos hw]
  exact wp_append_opt w s x t ho base e i z size bytes ht hi hz hsize hby hzs hsz v n xs hs hown ao m c news hx hl hnews h1 h63 hbytes hbase h
/-- The numbers of a list that append lays behind an empty one. -/
theorem news_of {w w' : World} {ao : Option Addr} {n : Nat} {zs : List Int} (h : SliceOf w ao n zs) (hb : Below w.heap.size w w') : NewsAt w' ao n (zs.map (Value.int .i64)) := by
  refine ⟨fun e => ?_, fun ad e j u hj => ?_⟩
  · by_cases h0 : 0 < n
    · obtain ⟨b, off, e2, _⟩ := h.2 h0
      rw [e] at e2; cases e2
    · omega
  · have hj' : j < n := by have := (List.getElem?_eq_some_iff.1 hj).1; simpa [h.1] using this
    obtain ⟨b, off, e2, hlt, hc⟩ := h.2 (by omega)
    rw [e] at e2
    obtain rfl : ad = ⟨b, off, none⟩ := by simpa using e2
    have h1 := (List.getElem?_eq_some_iff.1 hj).2
    simp only [List.getElem_map] at h1
    rw [← h1, show (⟨b, off, none⟩ : Addr).add j = ⟨b, off + j, none⟩ by simp [Addr.add], (hb.cell (p := ⟨b, off + j, none⟩) hlt).trans (hc j hj')]
    simp [List.getD, h.1, hj']
end Go.Proofs.YthaklmdhkkfigaaGreat
