import Derived.Test.YtcdcjpejlhcdnaaDoorSr13
namespace Go.Proofs.YtcdcjpejlhcdnaaDoor
open Go.RowKit Go.Sort
set_option linter.unusedVariables false
attribute [local go_sem ↓] Go.wp_at_zero Go.wp_at_succ

/-- The fields behind the keyword, laid in a new block. -/
theorem fields_new {w : World} {b off n c : Nat} {fs : List (List UInt8)} (hn : n + 1 ≤ 1048576) (hc : n + 1 ≤ c) (h : StrsOf w (some ⟨b, off, none⟩) (n + 1) fs) (ht : TagS w (some ⟨b, off, none⟩) (n + 1)) (a : Addr) (c' : Nat) (ha : (c = 1 ∧ a = ⟨b, off, none⟩ ∧ c' = 0) ∨ (¬ c = 1 ∧ a = ⟨b, off + 1, none⟩ ∧ c' = c - 1)) :
    FAt (w.alloc (.cells #[.slice (some a) n c', .nilIface] 86)) w.heap.size fs.tail false := by
  obtain ⟨_, _, dt⟩ := h.one
  refine ⟨some a, n, c', .nilIface, heap_alloc_new _ _, StrsOf.below (dt _ ?_) (below1 _ _), by omega, ⟨by omega, ?_⟩, .inl ⟨rfl, rfl⟩⟩
  · rcases ha with ⟨h1, _, _⟩ | ⟨_, h2, _⟩
    · right; omega
    · left; rw [h2]
  · intro h0
    rcases ha with ⟨h1, _, _⟩ | ⟨_, h2, _⟩
    · omega
    · obtain ⟨b', off', cs, fr, e, hb⟩ := ht (by omega)
      simp only [Option.some.injEq, Addr.mk.injEq] at e
      exact ⟨b, off + 1, cs, fr, by rw [h2], block_below (by rw [e.1]; exact hb) (below1 _ _)⟩
/-- What a line's reading comes to. -/
def LineTo (B R : Nat) (v : Value) (xs : List ScI) (o : Option ScI) (w : World) (e : Ending) (w' : World) : Prop :=
  (∃ ev, e = .returned ev ∧ ErrV (o.isNone || !decide (xs.length < 4000)) ev) ∧ (∀ it, o = some it → ∃ v', RAt w' B R v' (xs ++ [it])) ∧ Tn (fun b => b = R ∨ v.ownBlock = some b) w w'
theorem Tn.skip {S : Nat → Prop} {F : Nat} {w w1 w2 : World} (h : Tn S w w1) (h2 : Tn (· = F) w1 w2) (hF : w.heap.size ≤ F) : Tn S w w2 :=
  ⟨h2.os.trans h.os, h2.tape.trans h.tape, h2.output.trans h.output, Nat.le_trans h.size h2.size, fun b hb hs => (h2.block b (Nat.lt_of_lt_of_le hb h.size) (fun e => by omega)).trans (h.block b hb hs)⟩
theorem err_or {a b : Bool} {ev : Value} (h : ErrV a ev) (e : a = b) : ErrV b ev := by rw [← e]; exact h
theorem line_done {B R : Nat} {v : Value} {xs : List ScI} {o : Option ScI} {it : ScI} {bd : Bool} {rst : List (List UInt8)} {w w1 w2 : World} {ev : Value} (hi : o = if (bd || !rst.isEmpty) = true then none else some it) (he : ErrV ((bd || !decide (xs.length < 4000)) || !rst.isEmpty) ev) (hr : ∃ v', RAt w1 B R v' (xs ++ [it])) (ht : Tn (fun b => b = R ∨ v.ownBlock = some b) w w1) (h2 : Tn (· = w.heap.size) w1 w2)
    (hF : FAt w1 w.heap.size rst (bd || !decide (xs.length < 4000))) : LineTo B R v xs o w (.returned ev) w2 := by
  refine ⟨⟨ev, rfl, err_or he ?_⟩, fun it' e => ?_, ht.skip h2 (Nat.le_refl _)⟩
  · rw [hi]
    cases bd <;> cases hx : rst.isEmpty <;> simp
  · rw [hi] at e
    split at e
    · cases e
    · injection e with e
      subst e
      obtain ⟨v', r⟩ := hr
      have ne := r.ne hF
      exact ⟨v', r.tn h2 (fun e => ne.1 e.symm) (fun b hb => by rw [hb]; exact ne.2.1)⟩

set_option maxRecDepth 100000 in
set_option maxHeartbeats 1600000 in
theorem line_post (b off n c M R B : Nat) (fs : List (List UInt8)) (v : Value) (xs : List ScI) (w : World) (hv : Vars w) (hw : 12 < w.heap.size) (hB12 : 12 < B) (hB : B ≤ w.heap.size) (hl : xs.length ≤ 4000) (hn : n + 1 ≤ 1048576) (hc : n + 1 ≤ c) (hfl : ∀ f ∈ fs, f.length ≤ 1048576) (h : StrsOf w (some ⟨b, off, none⟩) (n + 1) fs) (ht : TagS w (some ⟨b, off, none⟩) (n + 1)) (hM : w.heap[M]? = some (.map (rdMap R) 4)) (hr : RAt w B R v xs) (hx : fs.getD 0 [] = kPost) :
    Calls Tryd.prog 23 #[.slice (some ⟨b, off, none⟩) (n + 1) c, .map (some M)] w fun e w' => LineTo B R v xs (itemP fs.tail) w e w' := by
  obtain ⟨c0, hbl, _⟩ := h.one
  rw [hx] at c0
  have c0' : w.cell? ⟨b, off, none⟩ = some (.string bPost) := c0
  have LK := look_at (W := w) bPost _ _ hM (by rfl : Instr.findNow .string (.string bPost) (rdMap R).toList 0 = some (some (_, fnV 24 R)))
  unfold fnV at LK
  obtain ⟨s, hs⟩ : ∃ s, s = bPost := ⟨_, rfl⟩
  rw [← hs] at c0' LK
  obtain ⟨a, c', ha⟩ : ∃ a c', (c = 1 ∧ a = (⟨b, off, none⟩ : Addr) ∧ c' = 0) ∨ (¬ c = 1 ∧ a = ⟨b, off + 1, none⟩ ∧ c' = c - 1) := by
    by_cases h1 : c = 1
    · exact ⟨_, _, .inl ⟨h1, rfl, rfl⟩⟩
    · exact ⟨_, _, .inr ⟨h1, rfl, rfl⟩⟩
  have FN := hid (fields_new hn hc h ht a c' ha)
  obtain ⟨W0, hW0⟩ : ∃ W, W = w.alloc (.cells #[.slice (some a) n c', .nilIface] 86) := ⟨_, rfl⟩
  rw [← hW0] at FN
  have BW : Hid (Below w.heap.size w W0) := hid (by rw [hW0]; exact below1 _ _)
  have hfl2 : ∀ f ∈ fs.tail, f.length ≤ 1048576 := fun f hf => hfl f (List.mem_of_mem_tail hf)
  have RD := hid (readPost_any w.heap.size R B fs.tail v xs W0 (hv.below BW.out hw (Nat.le_refl _)) hw (Nat.le_trans hB BW.out.size) hl hfl2 FN.out (hr.below BW.out))
  unfold ReadsTo at RD
  have IS := hid (post_is fs.tail)
  obtain ⟨it, hit⟩ : ∃ it : ScI, it = ⟨1, rdN fs.tail, rdN fs.tail.tail, rdN fs.tail.tail.tail⟩ := ⟨_, rfl⟩
  obtain ⟨rst, hrst⟩ : ∃ r, r = restAll [1, 2, 3] fs.tail := ⟨_, rfl⟩
  obtain ⟨bd, hbd⟩ : ∃ r, r = badAll false [1, 2, 3] fs.tail := ⟨_, rfl⟩
  rw [← hit] at RD IS
  rw [← hrst] at RD IS
  rw [← hbd] at RD IS
  have HV := hid hv
  have NF := hid (show ∀ j, j < w.heap.size → ¬ j = w.heap.size from fun j hj => by omega)
  have OL := hid (fun g (hg : g ≤ 12) (e : g = R ∨ v.ownBlock = some g) => (show False by rcases e with e | e; (have := hr.lo; omega); (have := (hr.row.lt g e).1; omega)))
  have HW0 := hid hW0
  clear hv h ht hM hr hx c0 hs hfl hfl2 hit hrst hbd hW0
  rcases ha with ⟨hc1, ha1, hc2⟩ | ⟨hc1, ha1, hc2⟩
  · subst hc1 hc2
    obtain rfl : n = 0 := by omega
    subst ha1
    go_enter Tryd.func23, Tryd.ntmps23
    go_wp2_with fail
    rw [← HW0.out]
    clear HW0
    with_reducible refine RD.out.mono ?_
    rintro e w1 ⟨rfl, h1, r1, t1⟩
    have H1 := hid h1
    have R1 := hid r1
    have T1 := hid t1
    clear h1 r1 t1
    have TT : Hid (Tn (fun b => b = R ∨ v.ownBlock = some b) w w1) := hid ⟨T1.out.os.trans BW.out.os, T1.out.tape.trans BW.out.tape, T1.out.output.trans BW.out.output, Nat.le_trans BW.out.size T1.out.size, fun j hj hs => (T1.out.block j (Nat.lt_of_lt_of_le hj BW.out.size) (fun e => by rcases e with e | e; exact NF.out j hj e; exact hs e)).trans (BW.out.block j hj)⟩
    have V1 : Hid (Vars w1) := hid (HV.out.tn TT.out (fun g hg e => OL.out g hg e))
    have EN := hid (end_any w.heap.size rst _ w1 V1.out hw H1.out)
    go_wp2_with (go_at_call 36; with_reducible refine EN.out.mono ?_)
    rintro e w2 ⟨⟨ev, rfl, hev⟩, t2⟩
    have EV := hid hev
    have T2 := hid t2
    clear hev t2
    go_wp2
    go_ret
    exact line_done IS.out EV.out R1.out TT.out T2.out H1.out
  · subst hc2
    subst ha1
    have hn1 : (1 : Int) ≤ (n : Int) + 1 := by omega
    go_enter Tryd.func23, Tryd.ntmps23
    go_wp2_with fail
    rw [← HW0.out]
    clear HW0
    with_reducible refine RD.out.mono ?_
    rintro e w1 ⟨rfl, h1, r1, t1⟩
    have H1 := hid h1
    have R1 := hid r1
    have T1 := hid t1
    clear h1 r1 t1
    have TT : Hid (Tn (fun b => b = R ∨ v.ownBlock = some b) w w1) := hid ⟨T1.out.os.trans BW.out.os, T1.out.tape.trans BW.out.tape, T1.out.output.trans BW.out.output, Nat.le_trans BW.out.size T1.out.size, fun j hj hs => (T1.out.block j (Nat.lt_of_lt_of_le hj BW.out.size) (fun e => by rcases e with e | e; exact NF.out j hj e; exact hs e)).trans (BW.out.block j hj)⟩
    have V1 : Hid (Vars w1) := hid (HV.out.tn TT.out (fun g hg e => OL.out g hg e))
    have EN := hid (end_any w.heap.size rst _ w1 V1.out hw H1.out)
    go_wp2_with (go_at_call 36; with_reducible refine EN.out.mono ?_)
    rintro e w2 ⟨⟨ev, rfl, hev⟩, t2⟩
    have EV := hid hev
    have T2 := hid t2
    clear hev t2
    go_wp2
    go_ret
    exact line_done IS.out EV.out R1.out TT.out T2.out H1.out

set_option maxRecDepth 100000 in
set_option maxHeartbeats 1600000 in
theorem line_pub (b off n c M R B : Nat) (fs : List (List UInt8)) (v : Value) (xs : List ScI) (w : World) (hv : Vars w) (hw : 12 < w.heap.size) (hB12 : 12 < B) (hB : B ≤ w.heap.size) (hl : xs.length ≤ 4000) (hn : n + 1 ≤ 1048576) (hc : n + 1 ≤ c) (hfl : ∀ f ∈ fs, f.length ≤ 1048576) (h : StrsOf w (some ⟨b, off, none⟩) (n + 1) fs) (ht : TagS w (some ⟨b, off, none⟩) (n + 1)) (hM : w.heap[M]? = some (.map (rdMap R) 4)) (hr : RAt w B R v xs) (hx : fs.getD 0 [] = kPub) :
    Calls Tryd.prog 23 #[.slice (some ⟨b, off, none⟩) (n + 1) c, .map (some M)] w fun e w' => LineTo B R v xs (itemU fs.tail) w e w' := by
  obtain ⟨c0, hbl, _⟩ := h.one
  rw [hx] at c0
  have c0' : w.cell? ⟨b, off, none⟩ = some (.string bPub) := c0
  have LK := look_at (W := w) bPub _ _ hM (by rfl : Instr.findNow .string (.string bPub) (rdMap R).toList 0 = some (some (_, fnV 25 R)))
  unfold fnV at LK
  obtain ⟨s, hs⟩ : ∃ s, s = bPub := ⟨_, rfl⟩
  rw [← hs] at c0' LK
  obtain ⟨a, c', ha⟩ : ∃ a c', (c = 1 ∧ a = (⟨b, off, none⟩ : Addr) ∧ c' = 0) ∨ (¬ c = 1 ∧ a = ⟨b, off + 1, none⟩ ∧ c' = c - 1) := by
    by_cases h1 : c = 1
    · exact ⟨_, _, .inl ⟨h1, rfl, rfl⟩⟩
    · exact ⟨_, _, .inr ⟨h1, rfl, rfl⟩⟩
  have FN := hid (fields_new hn hc h ht a c' ha)
  obtain ⟨W0, hW0⟩ : ∃ W, W = w.alloc (.cells #[.slice (some a) n c', .nilIface] 86) := ⟨_, rfl⟩
  rw [← hW0] at FN
  have BW : Hid (Below w.heap.size w W0) := hid (by rw [hW0]; exact below1 _ _)
  have hfl2 : ∀ f ∈ fs.tail, f.length ≤ 1048576 := fun f hf => hfl f (List.mem_of_mem_tail hf)
  have RD := hid (readPublish_any w.heap.size R B fs.tail v xs W0 (hv.below BW.out hw (Nat.le_refl _)) hw (Nat.le_trans hB BW.out.size) hl hfl2 FN.out (hr.below BW.out))
  unfold ReadsTo at RD
  have IS := hid (pub_is fs.tail)
  obtain ⟨it, hit⟩ : ∃ it : ScI, it = ⟨2, 0, rdN fs.tail, rdN fs.tail.tail⟩ := ⟨_, rfl⟩
  obtain ⟨rst, hrst⟩ : ∃ r, r = restAll [2, 3] fs.tail := ⟨_, rfl⟩
  obtain ⟨bd, hbd⟩ : ∃ r, r = badAll false [2, 3] fs.tail := ⟨_, rfl⟩
  rw [← hit] at RD IS
  rw [← hrst] at RD IS
  rw [← hbd] at RD IS
  have HV := hid hv
  have NF := hid (show ∀ j, j < w.heap.size → ¬ j = w.heap.size from fun j hj => by omega)
  have OL := hid (fun g (hg : g ≤ 12) (e : g = R ∨ v.ownBlock = some g) => (show False by rcases e with e | e; (have := hr.lo; omega); (have := (hr.row.lt g e).1; omega)))
  have HW0 := hid hW0
  clear hv h ht hM hr hx c0 hs hfl hfl2 hit hrst hbd hW0
  rcases ha with ⟨hc1, ha1, hc2⟩ | ⟨hc1, ha1, hc2⟩
  · subst hc1 hc2
    obtain rfl : n = 0 := by omega
    subst ha1
    go_enter Tryd.func23, Tryd.ntmps23
    go_wp2_with fail
    rw [← HW0.out]
    clear HW0
    with_reducible refine RD.out.mono ?_
    rintro e w1 ⟨rfl, h1, r1, t1⟩
    have H1 := hid h1
    have R1 := hid r1
    have T1 := hid t1
    clear h1 r1 t1
    have TT : Hid (Tn (fun b => b = R ∨ v.ownBlock = some b) w w1) := hid ⟨T1.out.os.trans BW.out.os, T1.out.tape.trans BW.out.tape, T1.out.output.trans BW.out.output, Nat.le_trans BW.out.size T1.out.size, fun j hj hs => (T1.out.block j (Nat.lt_of_lt_of_le hj BW.out.size) (fun e => by rcases e with e | e; exact NF.out j hj e; exact hs e)).trans (BW.out.block j hj)⟩
    have V1 : Hid (Vars w1) := hid (HV.out.tn TT.out (fun g hg e => OL.out g hg e))
    have EN := hid (end_any w.heap.size rst _ w1 V1.out hw H1.out)
    go_wp2_with (go_at_call 36; with_reducible refine EN.out.mono ?_)
    rintro e w2 ⟨⟨ev, rfl, hev⟩, t2⟩
    have EV := hid hev
    have T2 := hid t2
    clear hev t2
    go_wp2
    go_ret
    exact line_done IS.out EV.out R1.out TT.out T2.out H1.out
  · subst hc2
    subst ha1
    have hn1 : (1 : Int) ≤ (n : Int) + 1 := by omega
    go_enter Tryd.func23, Tryd.ntmps23
    go_wp2_with fail
    rw [← HW0.out]
    clear HW0
    with_reducible refine RD.out.mono ?_
    rintro e w1 ⟨rfl, h1, r1, t1⟩
    have H1 := hid h1
    have R1 := hid r1
    have T1 := hid t1
    clear h1 r1 t1
    have TT : Hid (Tn (fun b => b = R ∨ v.ownBlock = some b) w w1) := hid ⟨T1.out.os.trans BW.out.os, T1.out.tape.trans BW.out.tape, T1.out.output.trans BW.out.output, Nat.le_trans BW.out.size T1.out.size, fun j hj hs => (T1.out.block j (Nat.lt_of_lt_of_le hj BW.out.size) (fun e => by rcases e with e | e; exact NF.out j hj e; exact hs e)).trans (BW.out.block j hj)⟩
    have V1 : Hid (Vars w1) := hid (HV.out.tn TT.out (fun g hg e => OL.out g hg e))
    have EN := hid (end_any w.heap.size rst _ w1 V1.out hw H1.out)
    go_wp2_with (go_at_call 36; with_reducible refine EN.out.mono ?_)
    rintro e w2 ⟨⟨ev, rfl, hev⟩, t2⟩
    have EV := hid hev
    have T2 := hid t2
    clear hev t2
    go_wp2
    go_ret
    exact line_done IS.out EV.out R1.out TT.out T2.out H1.out

set_option maxRecDepth 100000 in
set_option maxHeartbeats 1600000 in
theorem line_tick (b off n c M R B : Nat) (fs : List (List UInt8)) (v : Value) (xs : List ScI) (w : World) (hv : Vars w) (hw : 12 < w.heap.size) (hB12 : 12 < B) (hB : B ≤ w.heap.size) (hl : xs.length ≤ 4000) (hn : n + 1 ≤ 1048576) (hc : n + 1 ≤ c) (hfl : ∀ f ∈ fs, f.length ≤ 1048576) (h : StrsOf w (some ⟨b, off, none⟩) (n + 1) fs) (ht : TagS w (some ⟨b, off, none⟩) (n + 1)) (hM : w.heap[M]? = some (.map (rdMap R) 4)) (hr : RAt w B R v xs) (hx : fs.getD 0 [] = kTick) :
    Calls Tryd.prog 23 #[.slice (some ⟨b, off, none⟩) (n + 1) c, .map (some M)] w fun e w' => LineTo B R v xs (itemT fs.tail) w e w' := by
  obtain ⟨c0, hbl, _⟩ := h.one
  rw [hx] at c0
  have c0' : w.cell? ⟨b, off, none⟩ = some (.string bTick) := c0
  have LK := look_at (W := w) bTick _ _ hM (by rfl : Instr.findNow .string (.string bTick) (rdMap R).toList 0 = some (some (_, fnV 26 R)))
  unfold fnV at LK
  obtain ⟨s, hs⟩ : ∃ s, s = bTick := ⟨_, rfl⟩
  rw [← hs] at c0' LK
  obtain ⟨a, c', ha⟩ : ∃ a c', (c = 1 ∧ a = (⟨b, off, none⟩ : Addr) ∧ c' = 0) ∨ (¬ c = 1 ∧ a = ⟨b, off + 1, none⟩ ∧ c' = c - 1) := by
    by_cases h1 : c = 1
    · exact ⟨_, _, .inl ⟨h1, rfl, rfl⟩⟩
    · exact ⟨_, _, .inr ⟨h1, rfl, rfl⟩⟩
  have FN := hid (fields_new hn hc h ht a c' ha)
  obtain ⟨W0, hW0⟩ : ∃ W, W = w.alloc (.cells #[.slice (some a) n c', .nilIface] 86) := ⟨_, rfl⟩
  rw [← hW0] at FN
  have BW : Hid (Below w.heap.size w W0) := hid (by rw [hW0]; exact below1 _ _)
  have hfl2 : ∀ f ∈ fs.tail, f.length ≤ 1048576 := fun f hf => hfl f (List.mem_of_mem_tail hf)
  have RD := hid (readTick_any w.heap.size R B fs.tail v xs W0 (hv.below BW.out hw (Nat.le_refl _)) hw (Nat.le_trans hB BW.out.size) hl hfl2 FN.out (hr.below BW.out))
  unfold ReadsTo at RD
  have IS := hid (tick_is fs.tail)
  obtain ⟨it, hit⟩ : ∃ it : ScI, it = ⟨3, 0, 0, rdN fs.tail⟩ := ⟨_, rfl⟩
  obtain ⟨rst, hrst⟩ : ∃ r, r = fs.tail.tail := ⟨_, rfl⟩
  obtain ⟨bd, hbd⟩ : ∃ r, r = ((false || !okN fs.tail) || !decide (1 ≤ rdN fs.tail ∧ rdN fs.tail ≤ 100)) := ⟨_, rfl⟩
  rw [← hit] at RD IS
  rw [← hrst] at RD IS
  rw [← hbd] at RD IS
  have HV := hid hv
  have NF := hid (show ∀ j, j < w.heap.size → ¬ j = w.heap.size from fun j hj => by omega)
  have OL := hid (fun g (hg : g ≤ 12) (e : g = R ∨ v.ownBlock = some g) => (show False by rcases e with e | e; (have := hr.lo; omega); (have := (hr.row.lt g e).1; omega)))
  have HW0 := hid hW0
  clear hv h ht hM hr hx c0 hs hfl hfl2 hit hrst hbd hW0
  rcases ha with ⟨hc1, ha1, hc2⟩ | ⟨hc1, ha1, hc2⟩
  · subst hc1 hc2
    obtain rfl : n = 0 := by omega
    subst ha1
    go_enter Tryd.func23, Tryd.ntmps23
    go_wp2_with fail
    rw [← HW0.out]
    clear HW0
    with_reducible refine RD.out.mono ?_
    rintro e w1 ⟨rfl, h1, r1, t1⟩
    have H1 := hid h1
    have R1 := hid r1
    have T1 := hid t1
    clear h1 r1 t1
    have TT : Hid (Tn (fun b => b = R ∨ v.ownBlock = some b) w w1) := hid ⟨T1.out.os.trans BW.out.os, T1.out.tape.trans BW.out.tape, T1.out.output.trans BW.out.output, Nat.le_trans BW.out.size T1.out.size, fun j hj hs => (T1.out.block j (Nat.lt_of_lt_of_le hj BW.out.size) (fun e => by rcases e with e | e; exact NF.out j hj e; exact hs e)).trans (BW.out.block j hj)⟩
    have V1 : Hid (Vars w1) := hid (HV.out.tn TT.out (fun g hg e => OL.out g hg e))
    have EN := hid (end_any w.heap.size rst _ w1 V1.out hw H1.out)
    go_wp2_with (go_at_call 36; with_reducible refine EN.out.mono ?_)
    rintro e w2 ⟨⟨ev, rfl, hev⟩, t2⟩
    have EV := hid hev
    have T2 := hid t2
    clear hev t2
    go_wp2
    go_ret
    exact line_done IS.out EV.out R1.out TT.out T2.out H1.out
  · subst hc2
    subst ha1
    have hn1 : (1 : Int) ≤ (n : Int) + 1 := by omega
    go_enter Tryd.func23, Tryd.ntmps23
    go_wp2_with fail
    rw [← HW0.out]
    clear HW0
    with_reducible refine RD.out.mono ?_
    rintro e w1 ⟨rfl, h1, r1, t1⟩
    have H1 := hid h1
    have R1 := hid r1
    have T1 := hid t1
    clear h1 r1 t1
    have TT : Hid (Tn (fun b => b = R ∨ v.ownBlock = some b) w w1) := hid ⟨T1.out.os.trans BW.out.os, T1.out.tape.trans BW.out.tape, T1.out.output.trans BW.out.output, Nat.le_trans BW.out.size T1.out.size, fun j hj hs => (T1.out.block j (Nat.lt_of_lt_of_le hj BW.out.size) (fun e => by rcases e with e | e; exact NF.out j hj e; exact hs e)).trans (BW.out.block j hj)⟩
    have V1 : Hid (Vars w1) := hid (HV.out.tn TT.out (fun g hg e => OL.out g hg e))
    have EN := hid (end_any w.heap.size rst _ w1 V1.out hw H1.out)
    go_wp2_with (go_at_call 36; with_reducible refine EN.out.mono ?_)
    rintro e w2 ⟨⟨ev, rfl, hev⟩, t2⟩
    have EV := hid hev
    have T2 := hid t2
    clear hev t2
    go_wp2
    go_ret
    exact line_done IS.out EV.out R1.out TT.out T2.out H1.out

set_option maxRecDepth 100000 in
set_option maxHeartbeats 1600000 in
theorem line_run (b off n c M R B : Nat) (fs : List (List UInt8)) (v : Value) (xs : List ScI) (w : World) (hv : Vars w) (hw : 12 < w.heap.size) (hB12 : 12 < B) (hB : B ≤ w.heap.size) (hl : xs.length ≤ 4000) (hn : n + 1 ≤ 1048576) (hc : n + 1 ≤ c) (hfl : ∀ f ∈ fs, f.length ≤ 1048576) (h : StrsOf w (some ⟨b, off, none⟩) (n + 1) fs) (ht : TagS w (some ⟨b, off, none⟩) (n + 1)) (hM : w.heap[M]? = some (.map (rdMap R) 4)) (hr : RAt w B R v xs) (hx : fs.getD 0 [] = kRun) :
    Calls Tryd.prog 23 #[.slice (some ⟨b, off, none⟩) (n + 1) c, .map (some M)] w fun e w' => LineTo B R v xs (itemR fs.tail) w e w' := by
  obtain ⟨c0, hbl, _⟩ := h.one
  rw [hx] at c0
  have c0' : w.cell? ⟨b, off, none⟩ = some (.string bRun) := c0
  have LK := look_at (W := w) bRun _ _ hM (by rfl : Instr.findNow .string (.string bRun) (rdMap R).toList 0 = some (some (_, fnV 27 R)))
  unfold fnV at LK
  obtain ⟨s, hs⟩ : ∃ s, s = bRun := ⟨_, rfl⟩
  rw [← hs] at c0' LK
  obtain ⟨a, c', ha⟩ : ∃ a c', (c = 1 ∧ a = (⟨b, off, none⟩ : Addr) ∧ c' = 0) ∨ (¬ c = 1 ∧ a = ⟨b, off + 1, none⟩ ∧ c' = c - 1) := by
    by_cases h1 : c = 1
    · exact ⟨_, _, .inl ⟨h1, rfl, rfl⟩⟩
    · exact ⟨_, _, .inr ⟨h1, rfl, rfl⟩⟩
  have FN := hid (fields_new hn hc h ht a c' ha)
  obtain ⟨W0, hW0⟩ : ∃ W, W = w.alloc (.cells #[.slice (some a) n c', .nilIface] 86) := ⟨_, rfl⟩
  rw [← hW0] at FN
  have BW : Hid (Below w.heap.size w W0) := hid (by rw [hW0]; exact below1 _ _)
  have hfl2 : ∀ f ∈ fs.tail, f.length ≤ 1048576 := fun f hf => hfl f (List.mem_of_mem_tail hf)
  have RD := hid (readRun_any w.heap.size R B fs.tail v xs W0 (hv.below BW.out hw (Nat.le_refl _)) hw (Nat.le_trans hB BW.out.size) hl hfl2 FN.out (hr.below BW.out))
  unfold ReadsTo at RD
  have IS := hid (run_is fs.tail)
  obtain ⟨it, hit⟩ : ∃ it : ScI, it = ⟨4, 0, 0, rdN fs.tail⟩ := ⟨_, rfl⟩
  obtain ⟨rst, hrst⟩ : ∃ r, r = fs.tail.tail := ⟨_, rfl⟩
  obtain ⟨bd, hbd⟩ : ∃ r, r = ((false || !okN fs.tail) || !decide (0 ≤ rdN fs.tail ∧ rdN fs.tail ≤ 10000)) := ⟨_, rfl⟩
  rw [← hit] at RD IS
  rw [← hrst] at RD IS
  rw [← hbd] at RD IS
  have HV := hid hv
  have NF := hid (show ∀ j, j < w.heap.size → ¬ j = w.heap.size from fun j hj => by omega)
  have OL := hid (fun g (hg : g ≤ 12) (e : g = R ∨ v.ownBlock = some g) => (show False by rcases e with e | e; (have := hr.lo; omega); (have := (hr.row.lt g e).1; omega)))
  have HW0 := hid hW0
  clear hv h ht hM hr hx c0 hs hfl hfl2 hit hrst hbd hW0
  rcases ha with ⟨hc1, ha1, hc2⟩ | ⟨hc1, ha1, hc2⟩
  · subst hc1 hc2
    obtain rfl : n = 0 := by omega
    subst ha1
    go_enter Tryd.func23, Tryd.ntmps23
    go_wp2_with fail
    rw [← HW0.out]
    clear HW0
    with_reducible refine RD.out.mono ?_
    rintro e w1 ⟨rfl, h1, r1, t1⟩
    have H1 := hid h1
    have R1 := hid r1
    have T1 := hid t1
    clear h1 r1 t1
    have TT : Hid (Tn (fun b => b = R ∨ v.ownBlock = some b) w w1) := hid ⟨T1.out.os.trans BW.out.os, T1.out.tape.trans BW.out.tape, T1.out.output.trans BW.out.output, Nat.le_trans BW.out.size T1.out.size, fun j hj hs => (T1.out.block j (Nat.lt_of_lt_of_le hj BW.out.size) (fun e => by rcases e with e | e; exact NF.out j hj e; exact hs e)).trans (BW.out.block j hj)⟩
    have V1 : Hid (Vars w1) := hid (HV.out.tn TT.out (fun g hg e => OL.out g hg e))
    have EN := hid (end_any w.heap.size rst _ w1 V1.out hw H1.out)
    go_wp2_with (go_at_call 36; with_reducible refine EN.out.mono ?_)
    rintro e w2 ⟨⟨ev, rfl, hev⟩, t2⟩
    have EV := hid hev
    have T2 := hid t2
    clear hev t2
    go_wp2
    go_ret
    exact line_done IS.out EV.out R1.out TT.out T2.out H1.out
  · subst hc2
    subst ha1
    have hn1 : (1 : Int) ≤ (n : Int) + 1 := by omega
    go_enter Tryd.func23, Tryd.ntmps23
    go_wp2_with fail
    rw [← HW0.out]
    clear HW0
    with_reducible refine RD.out.mono ?_
    rintro e w1 ⟨rfl, h1, r1, t1⟩
    have H1 := hid h1
    have R1 := hid r1
    have T1 := hid t1
    clear h1 r1 t1
    have TT : Hid (Tn (fun b => b = R ∨ v.ownBlock = some b) w w1) := hid ⟨T1.out.os.trans BW.out.os, T1.out.tape.trans BW.out.tape, T1.out.output.trans BW.out.output, Nat.le_trans BW.out.size T1.out.size, fun j hj hs => (T1.out.block j (Nat.lt_of_lt_of_le hj BW.out.size) (fun e => by rcases e with e | e; exact NF.out j hj e; exact hs e)).trans (BW.out.block j hj)⟩
    have V1 : Hid (Vars w1) := hid (HV.out.tn TT.out (fun g hg e => OL.out g hg e))
    have EN := hid (end_any w.heap.size rst _ w1 V1.out hw H1.out)
    go_wp2_with (go_at_call 36; with_reducible refine EN.out.mono ?_)
    rintro e w2 ⟨⟨ev, rfl, hev⟩, t2⟩
    have EV := hid hev
    have T2 := hid t2
    clear hev t2
    go_wp2
    go_ret
    exact line_done IS.out EV.out R1.out TT.out T2.out H1.out

set_option maxRecDepth 100000 in
set_option maxHeartbeats 1600000 in
theorem line_none (b off n c M R B : Nat) (fs : List (List UInt8)) (v : Value) (xs : List ScI) (w : World) (hv : Vars w) (h : StrsOf w (some ⟨b, off, none⟩) (n + 1) fs) (hM : w.heap[M]? = some (.map (rdMap R) 4)) (h1 : ¬ fs.getD 0 [] = kPost) (h2 : ¬ fs.getD 0 [] = kPub) (h3 : ¬ fs.getD 0 [] = kTick) (h4 : ¬ fs.getD 0 [] = kRun) :
    Calls Tryd.prog 23 #[.slice (some ⟨b, off, none⟩) (n + 1) c, .map (some M)] w fun e w' => LineTo B R v xs none w e w' := by
  obtain ⟨c0, hbl, _⟩ := h.one
  obtain ⟨s, hs⟩ : ∃ s : ByteArray, s = ⟨(fs.getD 0 []).toArray⟩ := ⟨_, rfl⟩
  have c0' : w.cell? ⟨b, off, none⟩ = some (.string s) := by rw [hs]; exact c0
  have hb : fs.getD 0 [] = bl s := ba_bl.1 hs.symm
  have LK := look_not (W := w) s hM (find_not R s (fun e => h1 (by rw [hb, e]; rfl)) (fun e => h2 (by rw [hb, e]; rfl)) (fun e => h3 (by rw [hb, e]; rfl)) (fun e => h4 (by rw [hb, e]; rfl)))
  obtain ⟨te, pe, hk⟩ := hv.key
  clear hv h hM h1 h2 h3 h4 c0 hs hb
  go_enter Tryd.func23, Tryd.ntmps23
  go_wp2
  go_ret
  exact ⟨⟨_, rfl, .inr ⟨rfl, _, _, rfl⟩⟩, fun it e => (by cases e), Tn.refl _ _⟩

/-- A line is read. -/
theorem readLine_any (b off n c M R B : Nat) (fs : List (List UInt8)) (v : Value) (xs : List ScI) (w : World) (hv : Vars w) (hw : 12 < w.heap.size) (hB12 : 12 < B) (hB : B ≤ w.heap.size) (hl : xs.length ≤ 4000) (hn : n + 1 ≤ 1048576) (hc : n + 1 ≤ c) (hfl : ∀ f ∈ fs, f.length ≤ 1048576) (h : StrsOf w (some ⟨b, off, none⟩) (n + 1) fs) (ht : TagS w (some ⟨b, off, none⟩) (n + 1)) (hM : w.heap[M]? = some (.map (rdMap R) 4)) (hr : RAt w B R v xs) :
    Calls Tryd.prog 23 #[.slice (some ⟨b, off, none⟩) (n + 1) c, .map (some M)] w fun e w' => LineTo B R v xs (itemOf fs) w e w' := by
  unfold itemOf
  by_cases h1 : fs.getD 0 [] = kPost
  · rw [if_pos h1]; exact line_post b off n c M R B fs v xs w hv hw hB12 hB hl hn hc hfl h ht hM hr h1
  · rw [if_neg h1]
    by_cases h2 : fs.getD 0 [] = kPub
    · rw [if_pos h2]; exact line_pub b off n c M R B fs v xs w hv hw hB12 hB hl hn hc hfl h ht hM hr h2
    · rw [if_neg h2]
      by_cases h3 : fs.getD 0 [] = kTick
      · rw [if_pos h3]; exact line_tick b off n c M R B fs v xs w hv hw hB12 hB hl hn hc hfl h ht hM hr h3
      · rw [if_neg h3]
        by_cases h4 : fs.getD 0 [] = kRun
        · rw [if_pos h4]; exact line_run b off n c M R B fs v xs w hv hw hB12 hB hl hn hc hfl h ht hM hr h4
        · rw [if_neg h4]
          exact line_none b off n c M R B fs v xs w hv h hM h1 h2 h3 h4
end Go.Proofs.YtcdcjpejlhcdnaaDoor
