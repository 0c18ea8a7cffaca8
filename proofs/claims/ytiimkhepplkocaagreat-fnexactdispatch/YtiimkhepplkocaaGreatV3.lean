import Derived.Test.YtiimkhepplkocaaGreatV2b
namespace Go.Proofs.YtiimkhepplkocaaGreat
open Go.RowKit Go.Sort
attribute [local go_sem ↓] Go.wp_at_zero Go.wp_at_succ

theorem tri_cells {w : World} {H : Nat} {a b c : Value} {t : TypeId} (h : w.heap[H]? = some (.cells #[a, b, c] t (0, 0))) : w.cell? ⟨H, 0, none⟩ = some a ∧ w.cell? ⟨H, 1, none⟩ = some b ∧ w.cell? ⟨H, 2, none⟩ = some c := by simp [World.cell?, h]

set_option maxRecDepth 100000 in
set_option maxHeartbeats 4000000 in
theorem emitNode_low (y f : Nat) (x : Value) (mb : Nat) (q : Int) (w : World) (B0 : Nat) (R : World → World → Prop)
    (hm : ∀ (w : World), (callMethod (.iface y x) vname #[.pointer (some ⟨mb, 0, none⟩)]).run Tryz.prog w = .ok (.enter f #[x, .pointer (some ⟨mb, 0, none⟩)]) w)
    (hv : Val w f x (.pointer (some ⟨mb, 0, none⟩)) q)
    (hr : ∀ w', Below w.heap.size w w' → Calls Tryz.prog 216 #[.pointer (some ⟨mb, 0, none⟩), .agg #[.int .i64 2, .int .i64 0, .int .i64 0, .int .i64 q]] w' fun e w'' => e = .returned (.tuple #[]) ∧ R w' w'' ∧ Stir B0 w' w'') :
    Calls Tryz.prog 220 #[.agg #[.iface y x], .pointer (some ⟨mb, 0, none⟩)] w fun e w' => e = .returned (.tuple #[]) ∧ ∃ w1, Below w.heap.size w w1 ∧ R w1 w' := by
  have M := hid hm
  have V := hid hv
  have HR := hid hr
  clear hm hv hr
  obtain ⟨W, hW⟩ : ∃ W, W = w.alloc (.cells #[.iface y x] 270) := ⟨_, rfl⟩
  have bW : Below w.heap.size w W := by rw [hW]; exact below1 _ _
  have hQ : W.heap[w.heap.size]? = some (.cells #[.iface y x] 270 (0, 0)) := by rw [hW]; exact heap_alloc_new w _
  have q0 := cell_of_one hQ
  have hl := lt_of_block hQ
  have D : Hid (Below w.heap.size w W.drew) := bW.drew
  have D0 : Hid (Below w.heap.size w W) := bW
  have HW := hid hW
  have HQ : Hid (W.drew.heap[w.heap.size]? = some (.cells #[.iface y x] 270 (0, 0))) := hQ
  have M2 : ∀ w : World, ((Sem.run Tryz.prog (method 434 y x "loop.example/s0063/impl.value") w).andThen fun a w' => Sem.run Tryz.prog (callFunc a.fst #[a.snd, Value.pointer (some ⟨mb, 0, none⟩)]) w') = .ok (.enter f #[x, .pointer (some ⟨mb, 0, none⟩)]) w := fun w => by
    have := M.out w
    simpa [callMethod, vname, go_sem] using this
  clear hQ bW hW
  go_enter Tryz.func220, Tryz.ntmps220
  go_wp2_with (first
    | (rw [← HW.out]; refine (V.out _ D0.out).mono ?_; rintro e w1 ⟨rfl, hb⟩; have B := hid (D0.out.trans (hb.mono D0.out.size)); clear hb)
    | (go_at_call 216; refine (HR.out _ (by first | exact B.out | exact B.out.alloc B.out.size _)).mono ?_; rintro e w3 ⟨rfl, hb, _⟩; have B3 := hid hb; clear hb))
  go_end0
  exact ⟨rfl, _, B.out, B3.out⟩

set_option maxRecDepth 100000 in
set_option maxHeartbeats 4000000 in
theorem postNode_low (y f : Nat) (x : Value) (a b : Int) (mb : Nat) (q : Int) (w : World) (B0 : Nat) (R : World → World → Prop)
    (hm : ∀ (w : World), (callMethod (.iface y x) vname #[.pointer (some ⟨mb, 0, none⟩)]).run Tryz.prog w = .ok (.enter f #[x, .pointer (some ⟨mb, 0, none⟩)]) w)
    (hv : Val w f x (.pointer (some ⟨mb, 0, none⟩)) q)
    (hr : ∀ w', Below w.heap.size w w' → Calls Tryz.prog 216 #[.pointer (some ⟨mb, 0, none⟩), .agg #[.int .i64 3, .int .i64 a, .int .i64 b, .int .i64 q]] w' fun e w'' => e = .returned (.tuple #[]) ∧ R w' w'' ∧ Stir B0 w' w'') :
    Calls Tryz.prog 221 #[.agg #[.int .i64 a, .int .i64 b, .iface y x], .pointer (some ⟨mb, 0, none⟩)] w fun e w' => e = .returned (.tuple #[]) ∧ ∃ w1, Below w.heap.size w w1 ∧ R w1 w' := by
  have M := hid hm
  have V := hid hv
  have HR := hid hr
  clear hm hv hr
  obtain ⟨W, hW⟩ : ∃ W, W = w.alloc (.cells #[.int .i64 a, .int .i64 b, .iface y x] 272) := ⟨_, rfl⟩
  have bW : Below w.heap.size w W := by rw [hW]; exact below1 _ _
  have hQ : W.heap[w.heap.size]? = some (.cells #[.int .i64 a, .int .i64 b, .iface y x] 272 (0, 0)) := by rw [hW]; exact heap_alloc_new w _
  obtain ⟨q0, q1, q2⟩ := tri_cells hQ
  have hl := lt_of_block hQ
  have D : Hid (Below w.heap.size w W.drew) := bW.drew
  have D0 : Hid (Below w.heap.size w W) := bW
  have HW := hid hW
  have HQ : Hid (W.drew.heap[w.heap.size]? = some (.cells #[.int .i64 a, .int .i64 b, .iface y x] 272 (0, 0))) := hQ
  have M2 : ∀ w : World, ((Sem.run Tryz.prog (method 434 y x "loop.example/s0063/impl.value") w).andThen fun a w' => Sem.run Tryz.prog (callFunc a.fst #[a.snd, Value.pointer (some ⟨mb, 0, none⟩)]) w') = .ok (.enter f #[x, .pointer (some ⟨mb, 0, none⟩)]) w := fun w => by
    have := M.out w
    simpa [callMethod, vname, go_sem] using this
  clear hQ bW hW
  go_enter Tryz.func221, Tryz.ntmps221
  go_wp2_with fail
  rw [← HW.out]
  go_region_held3 (fun w' => w'.cell? ⟨w.heap.size, 0, none⟩ = some (.int .i64 a) ∧ w'.cell? ⟨w.heap.size, 1, none⟩ = some (.int .i64 b) ∧ w'.cell? ⟨w.heap.size, 2, none⟩ = some (.iface y x)) (first | go_keep | exact SX.out | exact SZ.out)
    (first
    | (refine (V.out _ D.out).mono ?_; rintro e w1 ⟨rfl, hb⟩; have B := hid (D.out.trans (hb.mono D.out.size)); have Q1 := hid (block_below HQ.out hb); have SX := hid (tri_cells Q1.out); clear hb)
    | (go_at_call 216; refine (HR.out _ B.out).mono ?_; rintro e w3 ⟨rfl, hb, hst⟩; have B3 := hid hb; have SZ := hid (tri_cells (hst.box Q1.out (by decide) (by decide) (by decide))); clear hb hst))
  all_goals
    go_wp2
    go_end0
    exact ⟨rfl, _, B.out, B3.out⟩

set_option maxRecDepth 100000 in
set_option maxHeartbeats 4000000 in
theorem frontNode_low (y f : Nat) (x : Value) (a b : Int) (mb : Nat) (q : Int) (w : World) (B0 : Nat) (R : World → World → Prop)
    (hm : ∀ (w : World), (callMethod (.iface y x) vname #[.pointer (some ⟨mb, 0, none⟩)]).run Tryz.prog w = .ok (.enter f #[x, .pointer (some ⟨mb, 0, none⟩)]) w)
    (hv : Val w f x (.pointer (some ⟨mb, 0, none⟩)) q)
    (hr : ∀ w', Below w.heap.size w w' → Calls Tryz.prog 216 #[.pointer (some ⟨mb, 0, none⟩), .agg #[.int .i64 4, .int .i64 a, .int .i64 b, .int .i64 q]] w' fun e w'' => e = .returned (.tuple #[]) ∧ R w' w'' ∧ Stir B0 w' w'') :
    Calls Tryz.prog 222 #[.agg #[.int .i64 a, .int .i64 b, .iface y x], .pointer (some ⟨mb, 0, none⟩)] w fun e w' => e = .returned (.tuple #[]) ∧ ∃ w1, Below w.heap.size w w1 ∧ R w1 w' := by
  have M := hid hm
  have V := hid hv
  have HR := hid hr
  clear hm hv hr
  obtain ⟨W, hW⟩ : ∃ W, W = w.alloc (.cells #[.int .i64 a, .int .i64 b, .iface y x] 273) := ⟨_, rfl⟩
  have bW : Below w.heap.size w W := by rw [hW]; exact below1 _ _
  have hQ : W.heap[w.heap.size]? = some (.cells #[.int .i64 a, .int .i64 b, .iface y x] 273 (0, 0)) := by rw [hW]; exact heap_alloc_new w _
  obtain ⟨q0, q1, q2⟩ := tri_cells hQ
  have hl := lt_of_block hQ
  have D : Hid (Below w.heap.size w W.drew) := bW.drew
  have D0 : Hid (Below w.heap.size w W) := bW
  have HW := hid hW
  have HQ : Hid (W.drew.heap[w.heap.size]? = some (.cells #[.int .i64 a, .int .i64 b, .iface y x] 273 (0, 0))) := hQ
  have M2 : ∀ w : World, ((Sem.run Tryz.prog (method 434 y x "loop.example/s0063/impl.value") w).andThen fun a w' => Sem.run Tryz.prog (callFunc a.fst #[a.snd, Value.pointer (some ⟨mb, 0, none⟩)]) w') = .ok (.enter f #[x, .pointer (some ⟨mb, 0, none⟩)]) w := fun w => by
    have := M.out w
    simpa [callMethod, vname, go_sem] using this
  clear hQ bW hW
  go_enter Tryz.func222, Tryz.ntmps222
  go_wp2_with fail
  rw [← HW.out]
  go_region_held3 (fun w' => w'.cell? ⟨w.heap.size, 0, none⟩ = some (.int .i64 a) ∧ w'.cell? ⟨w.heap.size, 1, none⟩ = some (.int .i64 b) ∧ w'.cell? ⟨w.heap.size, 2, none⟩ = some (.iface y x)) (first | go_keep | exact SX.out | exact SZ.out)
    (first
    | (refine (V.out _ D.out).mono ?_; rintro e w1 ⟨rfl, hb⟩; have B := hid (D.out.trans (hb.mono D.out.size)); have Q1 := hid (block_below HQ.out hb); have SX := hid (tri_cells Q1.out); clear hb)
    | (go_at_call 216; refine (HR.out _ B.out).mono ?_; rintro e w3 ⟨rfl, hb, hst⟩; have B3 := hid hb; have SZ := hid (tri_cells (hst.box Q1.out (by decide) (by decide) (by decide))); clear hb hst))
  all_goals
    go_wp2
    go_end0
    exact ⟨rfl, _, B.out, B3.out⟩

set_option maxRecDepth 100000 in
set_option maxHeartbeats 4000000 in
theorem publishNode_low (y f : Nat) (x : Value) (b : Int) (mb : Nat) (q : Int) (w : World) (B0 : Nat) (R : World → World → Prop)
    (hm : ∀ (w : World), (callMethod (.iface y x) vname #[.pointer (some ⟨mb, 0, none⟩)]).run Tryz.prog w = .ok (.enter f #[x, .pointer (some ⟨mb, 0, none⟩)]) w)
    (hv : Val w f x (.pointer (some ⟨mb, 0, none⟩)) q)
    (hr : ∀ w', Below w.heap.size w w' → Calls Tryz.prog 216 #[.pointer (some ⟨mb, 0, none⟩), .agg #[.int .i64 5, .int .i64 0, .int .i64 b, .int .i64 q]] w' fun e w'' => e = .returned (.tuple #[]) ∧ R w' w'' ∧ Stir B0 w' w'') :
    Calls Tryz.prog 223 #[.agg #[.int .i64 b, .iface y x], .pointer (some ⟨mb, 0, none⟩)] w fun e w' => e = .returned (.tuple #[]) ∧ ∃ w1, Below w.heap.size w w1 ∧ R w1 w' := by
  have M := hid hm
  have V := hid hv
  have HR := hid hr
  clear hm hv hr
  obtain ⟨W, hW⟩ : ∃ W, W = w.alloc (.cells #[.int .i64 b, .iface y x] 275) := ⟨_, rfl⟩
  have bW : Below w.heap.size w W := by rw [hW]; exact below1 _ _
  have hQ : W.heap[w.heap.size]? = some (.cells #[.int .i64 b, .iface y x] 275 (0, 0)) := by rw [hW]; exact heap_alloc_new w _
  obtain ⟨q0, q1, _, _⟩ := pair_cells hQ
  have hl := lt_of_block hQ
  have D : Hid (Below w.heap.size w W.drew) := bW.drew
  have D0 : Hid (Below w.heap.size w W) := bW
  have HW := hid hW
  have HQ : Hid (W.drew.heap[w.heap.size]? = some (.cells #[.int .i64 b, .iface y x] 275 (0, 0))) := hQ
  have M2 : ∀ w : World, ((Sem.run Tryz.prog (method 434 y x "loop.example/s0063/impl.value") w).andThen fun a w' => Sem.run Tryz.prog (callFunc a.fst #[a.snd, Value.pointer (some ⟨mb, 0, none⟩)]) w') = .ok (.enter f #[x, .pointer (some ⟨mb, 0, none⟩)]) w := fun w => by
    have := M.out w
    simpa [callMethod, vname, go_sem] using this
  clear hQ bW hW
  go_enter Tryz.func223, Tryz.ntmps223
  go_wp2_with fail
  rw [← HW.out]
  go_region_held3 (fun w' => w'.cell? ⟨w.heap.size, 0, none⟩ = some (.int .i64 b) ∧ w'.cell? ⟨w.heap.size, 1, none⟩ = some (.iface y x)) (first | go_keep | exact SX.out | exact SZ.out)
    (first
    | (refine (V.out _ D.out).mono ?_; rintro e w1 ⟨rfl, hb⟩; have B := hid (D.out.trans (hb.mono D.out.size)); have Q1 := hid (block_below HQ.out hb); have SX := hid (two_cells' Q1.out); clear hb)
    | (go_at_call 216; refine (HR.out _ B.out).mono ?_; rintro e w3 ⟨rfl, hb, hst⟩; have B3 := hid hb; have SZ := hid (two_cells' (hst.box Q1.out (by decide) (by decide) (by decide))); clear hb hst))
  all_goals
    go_wp2
    go_end0
    exact ⟨rfl, _, B.out, B3.out⟩

set_option maxRecDepth 100000 in
set_option maxHeartbeats 4000000 in
theorem armNode_low (y f : Nat) (x : Value) (a b : Int) (mb : Nat) (q : Int) (w : World) (B0 : Nat) (R : World → World → Prop)
    (hm : ∀ (w : World), (callMethod (.iface y x) vname #[.pointer (some ⟨mb, 0, none⟩)]).run Tryz.prog w = .ok (.enter f #[x, .pointer (some ⟨mb, 0, none⟩)]) w)
    (hv : Val w f x (.pointer (some ⟨mb, 0, none⟩)) q)
    (hr : ∀ w', Below w.heap.size w w' → Calls Tryz.prog 216 #[.pointer (some ⟨mb, 0, none⟩), .agg #[.int .i64 8, .int .i64 a, .int .i64 b, .int .i64 q]] w' fun e w'' => e = .returned (.tuple #[]) ∧ R w' w'' ∧ Stir B0 w' w'') :
    Calls Tryz.prog 224 #[.agg #[.int .i64 a, .int .i64 b, .iface y x], .pointer (some ⟨mb, 0, none⟩)] w fun e w' => e = .returned (.tuple #[]) ∧ ∃ w1, Below w.heap.size w w1 ∧ R w1 w' := by
  have M := hid hm
  have V := hid hv
  have HR := hid hr
  clear hm hv hr
  obtain ⟨W, hW⟩ : ∃ W, W = w.alloc (.cells #[.int .i64 a, .int .i64 b, .iface y x] 277) := ⟨_, rfl⟩
  have bW : Below w.heap.size w W := by rw [hW]; exact below1 _ _
  have hQ : W.heap[w.heap.size]? = some (.cells #[.int .i64 a, .int .i64 b, .iface y x] 277 (0, 0)) := by rw [hW]; exact heap_alloc_new w _
  obtain ⟨q0, q1, q2⟩ := tri_cells hQ
  have hl := lt_of_block hQ
  have D : Hid (Below w.heap.size w W.drew) := bW.drew
  have D0 : Hid (Below w.heap.size w W) := bW
  have HW := hid hW
  have HQ : Hid (W.drew.heap[w.heap.size]? = some (.cells #[.int .i64 a, .int .i64 b, .iface y x] 277 (0, 0))) := hQ
  have M2 : ∀ w : World, ((Sem.run Tryz.prog (method 434 y x "loop.example/s0063/impl.value") w).andThen fun a w' => Sem.run Tryz.prog (callFunc a.fst #[a.snd, Value.pointer (some ⟨mb, 0, none⟩)]) w') = .ok (.enter f #[x, .pointer (some ⟨mb, 0, none⟩)]) w := fun w => by
    have := M.out w
    simpa [callMethod, vname, go_sem] using this
  clear hQ bW hW
  go_enter Tryz.func224, Tryz.ntmps224
  go_wp2_with fail
  rw [← HW.out]
  go_region_held3 (fun w' => w'.cell? ⟨w.heap.size, 0, none⟩ = some (.int .i64 a) ∧ w'.cell? ⟨w.heap.size, 1, none⟩ = some (.int .i64 b) ∧ w'.cell? ⟨w.heap.size, 2, none⟩ = some (.iface y x)) (first | go_keep | exact SX.out | exact SZ.out)
    (first
    | (refine (V.out _ D.out).mono ?_; rintro e w1 ⟨rfl, hb⟩; have B := hid (D.out.trans (hb.mono D.out.size)); have Q1 := hid (block_below HQ.out hb); have SX := hid (tri_cells Q1.out); clear hb)
    | (go_at_call 216; refine (HR.out _ B.out).mono ?_; rintro e w3 ⟨rfl, hb, hst⟩; have B3 := hid hb; have SZ := hid (tri_cells (hst.box Q1.out (by decide) (by decide) (by decide))); clear hb hst))
  all_goals
    go_wp2
    go_end0
    exact ⟨rfl, _, B.out, B3.out⟩

set_option maxHeartbeats 1000000 in
theorem deferNode_low (mb : Nat) (w : World) (B : Nat) (ks vs : List Int) (arg : Int) (es : List EffD) (he : es.length ≤ 1000000) (hB : B ≤ w.heap.size) (hM : Mom w B mb ks vs arg es) :
    Calls Tryz.prog 215 #[.agg #[], .pointer (some ⟨mb, 0, none⟩)] w fun e w' => e = .returned (.tuple #[]) ∧ Mom w' B mb ks vs arg (es ++ [⟨6, 0, 0, 0⟩]) ∧ Stir B w w' := by
  have N : Hid (∀ w', Below w.heap.size w w' → Calls Tryz.prog 216 #[.pointer (some ⟨mb, 0, none⟩), .agg #[.int .i64 6, .int .i64 0, .int .i64 0, .int .i64 0]] w' fun e w'' => e = .returned (.tuple #[]) ∧ Mom w'' B mb ks vs arg (es ++ [⟨6, 0, 0, 0⟩]) ∧ Stir B w w'') :=
    fun w' hb => (note_any mb ks vs arg es ⟨6, 0, 0, 0⟩ B w' he (Nat.le_trans hB hb.size) (hM.below hb)).mono fun e w'' ⟨h1, h2, h3⟩ => ⟨h1, h2, (Stir.of_below hb).trans h3⟩
  clear hM
  go_enter Tryz.func215, Tryz.ntmps215
  go_wp2_with (go_at_call 216; refine (N.out _ (by first | exact Below.refl _ _ | exact below1 _ _ | exact below2 _ _ _)).mono ?_; rintro e w3 ⟨rfl, hb⟩; have B3 := hid hb; clear hb)
  go_end0
  exact ⟨rfl, B3.out.1, B3.out.2⟩

set_option maxHeartbeats 1000000 in
theorem recallNode_low (mb : Nat) (w : World) (B : Nat) (ks vs : List Int) (arg : Int) (es : List EffD) (he : es.length ≤ 1000000) (hB : B ≤ w.heap.size) (hM : Mom w B mb ks vs arg es) :
    Calls Tryz.prog 217 #[.agg #[], .pointer (some ⟨mb, 0, none⟩)] w fun e w' => e = .returned (.tuple #[]) ∧ Mom w' B mb ks vs arg (es ++ [⟨7, 0, 0, 0⟩]) ∧ Stir B w w' := by
  have N : Hid (∀ w', Below w.heap.size w w' → Calls Tryz.prog 216 #[.pointer (some ⟨mb, 0, none⟩), .agg #[.int .i64 7, .int .i64 0, .int .i64 0, .int .i64 0]] w' fun e w'' => e = .returned (.tuple #[]) ∧ Mom w'' B mb ks vs arg (es ++ [⟨7, 0, 0, 0⟩]) ∧ Stir B w w'') :=
    fun w' hb => (note_any mb ks vs arg es ⟨7, 0, 0, 0⟩ B w' he (Nat.le_trans hB hb.size) (hM.below hb)).mono fun e w'' ⟨h1, h2, h3⟩ => ⟨h1, h2, (Stir.of_below hb).trans h3⟩
  clear hM
  go_enter Tryz.func217, Tryz.ntmps217
  go_wp2_with (go_at_call 216; refine (N.out _ (by first | exact Below.refl _ _ | exact below1 _ _ | exact below2 _ _ _)).mono ?_; rintro e w3 ⟨rfl, hb⟩; have B3 := hid hb; clear hb)
  go_end0
  exact ⟨rfl, B3.out.1, B3.out.2⟩

set_option maxHeartbeats 1000000 in
theorem disarmNode_low (a : Int) (mb : Nat) (w : World) (B : Nat) (ks vs : List Int) (arg : Int) (es : List EffD) (he : es.length ≤ 1000000) (hB : B ≤ w.heap.size) (hM : Mom w B mb ks vs arg es) :
    Calls Tryz.prog 218 #[.agg #[.int .i64 a], .pointer (some ⟨mb, 0, none⟩)] w fun e w' => e = .returned (.tuple #[]) ∧ Mom w' B mb ks vs arg (es ++ [⟨9, a, 0, 0⟩]) ∧ Stir B w w' := by
  have N : Hid (∀ w', Below w.heap.size w w' → Calls Tryz.prog 216 #[.pointer (some ⟨mb, 0, none⟩), .agg #[.int .i64 9, .int .i64 a, .int .i64 0, .int .i64 0]] w' fun e w'' => e = .returned (.tuple #[]) ∧ Mom w'' B mb ks vs arg (es ++ [⟨9, a, 0, 0⟩]) ∧ Stir B w w'') :=
    fun w' hb => (note_any mb ks vs arg es ⟨9, a, 0, 0⟩ B w' he (Nat.le_trans hB hb.size) (hM.below hb)).mono fun e w'' ⟨h1, h2, h3⟩ => ⟨h1, h2, (Stir.of_below hb).trans h3⟩
  clear hM
  go_enter Tryz.func218, Tryz.ntmps218
  go_wp2_with (go_at_call 216; refine (N.out _ (by first | exact Below.refl _ _ | exact below1 _ _ | exact below2 _ _ _)).mono ?_; rintro e w3 ⟨rfl, hb⟩; have B3 := hid hb; clear hb)
  go_end0
  exact ⟨rfl, B3.out.1, B3.out.2⟩

end Go.Proofs.YtiimkhepplkocaaGreat
