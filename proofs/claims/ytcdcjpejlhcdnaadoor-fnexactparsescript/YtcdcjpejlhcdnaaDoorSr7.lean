import Derived.Test.YtcdcjpejlhcdnaaDoorSr6
import Derived.Test.YtcdcjpejlhcdnaaDoorShL
namespace Go.Proofs.YtcdcjpejlhcdnaaDoor
open Go.RowKit Go.Sort
set_option linter.unusedVariables false
attribute [local go_sem ↓] Go.wp_at_zero Go.wp_at_succ

/-- Of what stood, the blocks of a set alone have turned. -/
structure Tn (S : Nat → Prop) (w w' : World) : Prop where
  os : w'.os = w.os
  tape : w'.tape = w.tape
  output : w'.output = w.output
  size : w.heap.size ≤ w'.heap.size
  block : ∀ b, b < w.heap.size → ¬ S b → w'.heap[b]? = w.heap[b]?
theorem Tn.refl (S : Nat → Prop) (w : World) : Tn S w w := ⟨rfl, rfl, rfl, Nat.le_refl _, fun _ _ _ => rfl⟩
theorem Tn.trans {S : Nat → Prop} {a b c : World} (h : Tn S a b) (k : Tn S b c) : Tn S a c :=
  ⟨k.os.trans h.os, k.tape.trans h.tape, k.output.trans h.output, Nat.le_trans h.size k.size, fun i hi hs => (k.block i (Nat.lt_of_lt_of_le hi h.size) hs).trans (h.block i hi hs)⟩
theorem Tn.mono {S R : Nat → Prop} {a b : World} (h : Tn S a b) (k : ∀ i, i < a.heap.size → S i → R i) : Tn R a b := ⟨h.os, h.tape, h.output, h.size, fun i hi hs => h.block i hi (fun e => hs (k i hi e))⟩
theorem Tn.of_below {S : Nat → Prop} {a b : World} (h : Below a.heap.size a b) : Tn S a b := ⟨h.os, h.tape, h.output, h.size, fun i hs _ => h.block i hs⟩
theorem Tn.set {S : Nat → Prop} {w : World} {b o : Nat} (h : S b) (v : Value) : Tn S w (w.setCell ⟨b, o, none⟩ v) := ⟨rfl, rfl, rfl, by simp, fun i _ hs => Below.heap_setCell _ _ _ _ (fun (e : i = b) => hs (by rw [e]; exact h))⟩
theorem Tn.one {w : World} {F o : Nat} (v : Value) : Tn (· = F) w (w.setCell ⟨F, o, none⟩ v) := Tn.set (S := (· = F)) rfl v
theorem Tn.below {S : Nat → Prop} {B : Nat} {a b : World} (h : Tn S a b) (hB : B ≤ a.heap.size) (hS : ∀ i, S i → B ≤ i) : Below B a b := ⟨h.os, h.tape, h.output, h.size, fun i hi => h.block i (by omega) (fun e => by have := hS i e; omega)⟩
theorem Tn.at {S : Nat → Prop} {a b : World} {i : Nat} {o : Obj} (h : Tn S a b) (hi : a.heap[i]? = some o) (hs : ¬ S i) : b.heap[i]? = some o := (h.block i (lt_of_block hi) hs).trans hi
theorem cell_same {a b : World} {i : Nat} (h : b.heap[i]? = a.heap[i]?) (o : Nat) : b.cell? ⟨i, o, none⟩ = a.cell? ⟨i, o, none⟩ := by
  unfold World.cell?
  simp only []
  rw [h]
theorem StrsOf.tn {S : Nat → Prop} {w w' : World} {ao : Option Addr} {n : Nat} {fs : List (List UInt8)} (h : StrsOf w ao n fs) (ht : Tn S w w') (hs : ∀ b off, 0 < n → ao = some ⟨b, off, none⟩ → ¬ S b) : StrsOf w' ao n fs :=
  ⟨h.1, fun hn => by
    obtain ⟨b, off, e, hlt, hc⟩ := h.2 hn
    exact ⟨b, off, e, Nat.lt_of_lt_of_le hlt ht.size, fun i hi => (cell_same (ht.block b hlt (hs b off hn e)) _).trans (hc i hi)⟩⟩

/-- A variable that holds an error. -/
def EC (w : World) (g : Nat) : Prop := ∃ te pe, w.cell? ⟨g, 0, none⟩ = some (.iface te pe)
abbrev Pow (w : World) : Prop := Lib.TabIs Tryd.prog w "internal/strconv.uint64pow10" .u64 Lib.pow10Tab
theorem pow_g : Tryd.prog.globalNamed "internal/strconv.uint64pow10" = some 10 := by kernel_rfl
structure Vars (w : World) : Prop where
  field : EC w 4
  few : EC w 7
  many : EC w 5
  place : EC w 6
  key : EC w 3
  syn : EC w 8
  rng : EC w 9
  pow : Pow w
theorem EC.tn {S : Nat → Prop} {w w' : World} {g : Nat} (h : EC w g) (ht : Tn S w w') (hs : ¬ S g) : EC w' g := by
  obtain ⟨te, pe, hc⟩ := h
  exact ⟨te, pe, (cell_same (ht.block g (Lib.lt_of_cell hc) hs) 0).trans hc⟩
theorem Pow.tn {S : Nat → Prop} {w w' : World} (h : Pow w) (ht : Tn S w w') (hs : ¬ S 10) : Pow w' := by
  unfold Pow Lib.TabIs World.var? at *
  rw [pow_g] at h ⊢
  simp only [Option.bind_some] at h ⊢
  by_cases hl : 10 < w.heap.size
  · rw [ht.block _ hl hs]; exact h
  · rw [Array.getElem?_eq_none (by omega)] at h; cases h
theorem Vars.tn {S : Nat → Prop} {w w' : World} (h : Vars w) (ht : Tn S w w') (hs : ∀ g, g ≤ 12 → ¬ S g) : Vars w' :=
  ⟨h.field.tn ht (hs _ (by decide)), h.few.tn ht (hs _ (by decide)), h.many.tn ht (hs _ (by decide)), h.place.tn ht (hs _ (by decide)), h.key.tn ht (hs _ (by decide)), h.syn.tn ht (hs _ (by decide)), h.rng.tn ht (hs _ (by decide)), h.pow.tn ht (hs _ (by decide))⟩
theorem Vars.below {B : Nat} {w w' : World} (h : Vars w) (hb : Below B w w') (hB : 12 < B) (hw : B ≤ w.heap.size) : Vars w' :=
  h.tn (S := fun i => B ≤ i) ⟨hb.os, hb.tape, hb.output, hb.size, fun i _ hs => hb.block i (by omega)⟩ (fun g hg => by omega)

/-- Where texts stand there is a row of texts. -/
def TagS (w : World) (ao : Option Addr) (n : Nat) : Prop := 0 < n → ∃ b off cs fr, ao = some ⟨b, off, none⟩ ∧ w.heap[b]? = some (.cells cs 9 fr)
theorem TagS.tn {S : Nat → Prop} {w w' : World} {ao : Option Addr} {n : Nat} (h : TagS w ao n) (ht : Tn S w w') (hs : ∀ b, S b → ∀ cs fr, w.heap[b]? ≠ some (.cells cs 9 fr)) : TagS w' ao n := fun hn => by
  obtain ⟨b, off, cs, fr, e, hb⟩ := h hn
  exact ⟨b, off, cs, fr, e, ht.at hb (fun e2 => hs b e2 cs fr hb)⟩
theorem TagS.far {S : Nat → Prop} {w : World} {ao : Option Addr} {n : Nat} (h : TagS w ao n) (hs : ∀ b, S b → ∀ cs fr, w.heap[b]? ≠ some (.cells cs 9 fr)) : ∀ b off, 0 < n → ao = some ⟨b, off, none⟩ → ¬ S b := by
  rintro b off hn rfl hb
  obtain ⟨b', off', cs, fr, e, hc⟩ := h hn
  simp only [Option.some.injEq, Addr.mk.injEq] at e
  obtain ⟨rfl, _⟩ := e
  exact hs _ hb cs fr hc
theorem TagS.below {w w' : World} {ao : Option Addr} {n : Nat} (h : TagS w ao n) (hb : Below w.heap.size w w') : TagS w' ao n := fun hn => by
  obtain ⟨b, off, cs, fr, e, h2⟩ := h hn
  exact ⟨b, off, cs, fr, e, block_below h2 hb⟩
/-- The fields of a line that are still to be read, and whether a fault has been met. -/
def FAt (w : World) (F : Nat) (fs : List (List UInt8)) (bad : Bool) : Prop :=
  ∃ ao n c ev, w.heap[F]? = some (.cells #[.slice ao n c, ev] 86 (0, 0)) ∧ StrsOf w ao n fs ∧ n ≤ c ∧ (n ≤ 1048576 ∧ TagS w ao n) ∧ ((bad = false ∧ ev = .nilIface) ∨ (bad = true ∧ ∃ te pe, ev = .iface te pe))
theorem two_cc {w : World} {H : Nat} {a b : Value} {t : TypeId} (k : w.heap[H]? = some (.cells #[a, b] t (0, 0))) : w.cell? ⟨H, 0, none⟩ = some a ∧ w.cell? ⟨H, 1, none⟩ = some b ∧ w.frozen? ⟨H, 0, none⟩ = false ∧ w.frozen? ⟨H, 1, none⟩ = false := by
  simp [World.cell?, World.frozen?, k]
theorem tag_ne {w : World} {F : Nat} {cs : Array Value} {t : TypeId} {fr : Nat × Nat} (h : w.heap[F]? = some (.cells cs t fr)) (ht : t ≠ 9) : ∀ b, b = F → ∀ cs fr, w.heap[b]? ≠ some (.cells cs 9 fr) := by
  rintro b rfl cs' fr' h2
  rw [h] at h2
  simp at h2
  exact ht h2.2.1
theorem FAt.lt {w : World} {F : Nat} {fs : List (List UInt8)} {bad : Bool} (h : FAt w F fs bad) : F < w.heap.size := by
  obtain ⟨_, _, _, _, h, _⟩ := h
  exact lt_of_block h
theorem FAt.below {w w' : World} {F : Nat} {fs : List (List UInt8)} {bad : Bool} (h : FAt w F fs bad) (hb : Below w.heap.size w w') : FAt w' F fs bad := by
  obtain ⟨ao, n, c, ev, h1, h2, h3, h4, h5⟩ := h
  exact ⟨ao, n, c, ev, block_below h1 hb, h2.below hb, h3, ⟨h4.1, h4.2.below hb⟩, h5⟩
theorem FAt.tn {S : Nat → Prop} {w w' : World} {F : Nat} {fs : List (List UInt8)} {bad : Bool} (h : FAt w F fs bad) (ht : Tn S w w') (hF : ¬ S F) (hs : ∀ b, S b → ∀ cs fr, w.heap[b]? ≠ some (.cells cs 9 fr)) : FAt w' F fs bad := by
  obtain ⟨ao, n, c, ev, h1, h2, h3, h4, h5⟩ := h
  exact ⟨ao, n, c, ev, ht.at h1 hF, h2.tn ht (h4.2.far hs), h3, ⟨h4.1, h4.2.tn ht hs⟩, h5⟩
theorem ev_or {bad : Bool} {ev : Value} (h : (bad = false ∧ ev = .nilIface) ∨ (bad = true ∧ ∃ te pe, ev = .iface te pe)) : ev = .nilIface ∨ ∃ te pe, ev = .iface te pe := by
  rcases h with ⟨_, h⟩ | ⟨_, h⟩
  · exact .inl h
  · exact .inr h
theorem FAt.setErr {w : World} {F : Nat} {fs : List (List UInt8)} {bad : Bool} (h : FAt w F fs bad) (te : TypeId) (pe : Value) : FAt (w.setCell ⟨F, 1, none⟩ (.iface te pe)) F fs true := by
  obtain ⟨ao, n, c, ev, h1, h2, h3, h4, h5⟩ := h
  have hs := tag_ne h1 (by decide)
  exact ⟨ao, n, c, .iface te pe, by rw [heap_setCell_same w F 1 _ _ _ h1]; simp, h2.tn (S := (· = F)) (Tn.one _) (h4.2.far hs), h3, ⟨h4.1, h4.2.tn (S := (· = F)) (Tn.one _) hs⟩, .inr ⟨rfl, _, _, rfl⟩⟩

set_option maxRecDepth 100000 in
set_option maxHeartbeats 800000 in
theorem fail_any (F : Nat) (fs : List (List UInt8)) (bad : Bool) (te : TypeId) (pe : Value) (w : World) (h : FAt w F fs bad) :
    Calls Tryd.prog 47 #[.pointer (some ⟨F, 0, none⟩), .iface te pe] w fun e w' => e = .returned (.tuple #[]) ∧ FAt w' F fs true ∧ Tn (· = F) w w' := by
  have H := hid h
  obtain ⟨ao, n, c, ev, h1, h2, h3, h4, h5⟩ := h
  obtain ⟨c0, c1, f0, f1⟩ := two_cc h1
  clear h1 h2
  rcases h5 with ⟨rfl, rfl⟩ | ⟨rfl, te', pe', rfl⟩
  · go_enter Tryd.func47, Tryd.ntmps47
    go_wp2
    go_end0
    exact ⟨rfl, H.out.setErr te pe, Tn.one _⟩
  · go_enter Tryd.func47, Tryd.ntmps47
    go_wp2
    go_end0
    exact ⟨rfl, H.out, Tn.refl _ _⟩

set_option maxRecDepth 100000 in
set_option maxHeartbeats 800000 in
theorem need_any (F : Nat) (fs : List (List UInt8)) (bad b : Bool) (te : TypeId) (pe : Value) (w : World) (h : FAt w F fs bad) :
    Calls Tryd.prog 40 #[.pointer (some ⟨F, 0, none⟩), .bool b, .iface te pe] w fun e w' => e = .returned (.tuple #[]) ∧ FAt w' F fs (bad || !b) ∧ Tn (· = F) w w' := by
  have C := hid (fail_any F fs bad te pe w h)
  cases b with
  | true =>
    have H := hid h
    clear h C
    go_enter Tryd.func40, Tryd.ntmps40
    go_wp2
    go_end0
    exact ⟨rfl, by simpa using H.out, Tn.refl _ _⟩
  | false =>
    clear h
    go_enter Tryd.func40, Tryd.ntmps40
    go_wp2_with (go_at_call 47; with_reducible refine C.out.mono ?_; rintro e w1 ⟨rfl, h1, h2⟩; have H1 := hid h1; have H2 := hid h2; clear h1 h2)
    go_end0
    exact ⟨rfl, by simpa using H1.out, H2.out⟩

set_option maxRecDepth 100000 in
set_option maxHeartbeats 800000 in
theorem next_any (F : Nat) (fs : List (List UInt8)) (bad : Bool) (w : World) (hv : Vars w) (h : FAt w F fs bad) :
    Calls Tryd.prog 46 #[.pointer (some ⟨F, 0, none⟩)] w fun e w' => e = .returned (.string ⟨(fs.getD 0 []).toArray⟩) ∧ FAt w' F fs.tail (bad || fs.isEmpty) ∧ Tn (· = F) w w' := by
  have H := hid h
  obtain ⟨te, pe, hf⟩ := hv.few
  have C := hid (fail_any F fs bad te pe w h)
  obtain ⟨ao, n, c, ev, h1, h2, h3, h4, h5⟩ := h
  obtain ⟨c0, c1, f0, f1⟩ := two_cc h1
  cases fs with
  | nil =>
    obtain rfl : n = 0 := h2.1.symm
    clear h1 h2 hv
    go_enter Tryd.func46, Tryd.ntmps46
    go_wp2_with (go_at_call 47; with_reducible refine C.out.mono ?_; rintro e w1 ⟨rfl, h1, h2⟩; have H1 := hid h1; have H2 := hid h2; clear h1 h2)
    go_ret
    exact ⟨rfl, by simpa using H1.out, H2.out⟩
  | cons x r =>
    obtain ⟨m, rfl⟩ : ∃ m, n = m + 1 := ⟨r.length, by have := h2.1; simpa using this.symm⟩
    obtain ⟨b, off, rfl, hbl, hc⟩ := h2.2 (by omega)
    obtain ⟨d0, _, dt⟩ := h2.one
    have hd0 : w.cell? ⟨b, off, none⟩ = some (.string ⟨x.toArray⟩) := d0
    have H1 := hid h1
    have hs := hid (tag_ne h1 (by decide))
    have far := hid (h4.2.far hs.out b off (by omega) rfl)
    have TG : Hid (TagS w (some ⟨b, off + 1, none⟩) m) := hid (fun _ => by
      obtain ⟨b', off', cs, fr, e, hb⟩ := h4.2 (by omega)
      simp only [Option.some.injEq, Addr.mk.injEq] at e
      exact ⟨b, off + 1, cs, fr, rfl, by rw [e.1]; exact hb⟩)
    have H5 := hid h5
    have DT := hid dt
    have H4 := hid h4
    clear h1 h2 hv C d0 dt h5 h4 H
    by_cases hc1 : c = 1
    · obtain rfl : m = 0 := by omega
      subst hc1
      go_enter Tryd.func46, Tryd.ntmps46
      go_wp2
      go_ret
      refine ⟨rfl, ⟨some ⟨b, off, none⟩, 0, 0, ev, by rw [heap_setCell_same w F 0 _ _ _ H1.out]; simp, ?_, by omega, ⟨by omega, fun h => by omega⟩, by simpa using H5.out⟩, Tn.one _⟩
      exact (DT.out _ (.inr (by simp))).tn (S := (· = F)) (Tn.one _) (fun b off h => by omega)
    · have hm : (1 : Int) ≤ (m : Int) + 1 := by omega
      go_enter Tryd.func46, Tryd.ntmps46
      go_wp2
      go_ret
      refine ⟨rfl, ⟨some ⟨b, off + 1, none⟩, m, c - 1, ev, by rw [heap_setCell_same w F 0 _ _ _ H1.out]; simp, ?_, by omega, ⟨by have := H4.out.1; omega, TG.out.tn (S := (· = F)) (Tn.one _) hs.out⟩, by simpa using H5.out⟩, Tn.one _⟩
      exact (DT.out _ (.inl rfl)).tn (S := (· = F)) (Tn.one _) (fun b' off' _ e => by simp only [Option.some.injEq, Addr.mk.injEq] at e; rw [← e.1]; exact far.out)
end Go.Proofs.YtcdcjpejlhcdnaaDoor
