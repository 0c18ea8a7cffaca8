import Derived.Test.YtiimkhepplkocaaGreatVa
namespace Go.Proofs.YtiimkhepplkocaaGreat
open Go.RowKit Go.Sort
attribute [local go_sem ↓] Go.wp_at_zero Go.wp_at_succ
theorem tri_cells {w : World} {H : Nat} {a b c : Value} {t : TypeId} (h : w.heap[H]? = some (.cells #[a, b, c] t (0, 0))) : w.cell? ⟨H, 0, none⟩ = some a ∧ w.cell? ⟨H, 1, none⟩ = some b ∧ w.cell? ⟨H, 2, none⟩ = some c := by simp [World.cell?, h]
set_option maxRecDepth 100000 in
set_option maxHeartbeats 4000000 in
theorem emitNode_low (y f : Nat) (x : Value) (mb : Nat) (q : Int) (w : World) (B0 : Nat) (R : World → World → Prop)
  (hm : ∀ (w : World), (callMethod (.iface y x) vname #[.pointer (some ⟨mb, 0, none⟩)]).run Tryz.prog w = .ok (.enter f #[x, .pointer (some ⟨mb, 0, none⟩)]) w)
  (hv : Val w f x (.pointer (some ⟨mb, 0, none⟩)) q)
  (hr : ∀ w', Below w.heap.size w w' → Calls Tryz.prog 216 #[.pointer (some ⟨mb, 0, none⟩), .agg #[.int .i64 2, .int .i64 0, .int .i64 0, .int .i64 q]] w' fun e w'' => e = .returned (.tuple #[]) ∧ R w' w'' ∧ Stir B0 w' w'') :
  Calls Tryz.prog 220 #[.agg #[.iface y x], .pointer (some ⟨mb, 0, none⟩)] w fun e w' => e = .returned (.tuple #[]) ∧ ∃ w1, Below w.heap.size w w1 ∧ R w1 w' := by
 have M := hid hm
 have V := hid hv
 have HR := hid hr
 clear hm hv hr
 obtain ⟨W, hW⟩ : ∃ W, W = w.alloc (.cells #[.iface y x] 270) := ⟨_, rfl⟩
 have bW : Below w.heap.size w W := by rw [hW]; exact below1 _ _
 have hQ : W.heap[w.heap.size]? = some (.cells #[.iface y x] 270 (0, 0)) := by rw [hW]; exact heap_alloc_new w _
 have q0 := cell_of_one hQ
 have hl := lt_of_block hQ
 have D : Hid (Below w.heap.size w W.drew) := bW.drew
 have D0 : Hid (Below w.heap.size w W) := bW
 have HW := hid hW
 have HQ : Hid (W.drew.heap[w.heap.size]? = some (.cells #[.iface y x] 270 (0, 0))) := hQ
 have M2 : ∀ w : World, ((Sem.run Tryz.prog (method 434 y x "loop.example/s0063/impl.value") w).andThen fun a w' => Sem.run Tryz.prog (callFunc a.fst #[a.snd, Value.pointer (some ⟨mb, 0, none⟩)]) w') = .ok (.enter f #[x, .pointer (some ⟨mb, 0, none⟩)]) w := fun w => by
  have := M.out w
  simpa [callMethod, vname, go_sem] using this
 clear hQ bW hW
 go_enter Tryz.func220, Tryz.ntmps220
 go_wp2_with (first
  | (rw [← HW.out]; refine (V.out _ D0.out).mono ?_; rintro e w1 ⟨rfl, hb⟩; have B := hid (D0.out.trans (hb.mono D0.out.size)); clear hb)
  | (go_at_call 216; refine (HR.out _ (by first | exact B.out | exact B.out.alloc B.out.size _)).mono ?_; rintro e w3 ⟨rfl, hb, _⟩; have B3 := hid hb; clear hb))
 go_end0
 exact ⟨rfl, _, B.out, B3.out⟩
set_option maxRecDepth 100000 in
set_option maxHeartbeats 4000000 in
theorem postNode_low (y f : Nat) (x : Value) (a b : Int) (mb : Nat) (q : Int) (w : World) (B0 : Nat) (R : World → World → Prop)
  (hm : ∀ (w : World), (callMethod (.iface y x) vname #[.pointer (some ⟨mb, 0, none⟩)]).run Tryz.prog w = .ok (.enter f #[x, .pointer (some ⟨mb, 0, none⟩)]) w)
  (hv : Val w f x (.pointer (some ⟨mb, 0, none⟩)) q)
  (hr : ∀ w', Below w.heap.size w w' → Calls Tryz.prog 216 #[.pointer (some ⟨mb, 0, none⟩), .agg #[.int .i64 3, .int .i64 a, .int .i64 b, .int .i64 q]] w' fun e w'' => e = .returned (.tuple #[]) ∧ R w' w'' ∧ Stir B0 w' w'') :
  Calls Tryz.prog 221 #[.agg #[.int .i64 a, .int .i64 b, .iface y x], .pointer (some ⟨mb, 0, none⟩)] w fun e w' => e = .returned (.tuple #[]) ∧ ∃ w1, Below w.heap.size w w1 ∧ R w1 w' := by
 have M := hid hm
 have V := hid hv
 have HR := hid hr
 clear hm hv hr
 obtain ⟨W, hW⟩ : ∃ W, W = w.alloc (.cells #[.int .i64 a, .int .i64 b, .iface y x] 272) := ⟨_, rfl⟩
 have bW : Below w.heap.size w W := by rw [hW]; exact below1 _ _
 have hQ : W.heap[w.heap.size]? = some (.cells #[.int .i64 a, .int .i64 b, .iface y x] 272 (0, 0)) := by rw [hW]; exact heap_alloc_new w _
 obtain ⟨q0, q1, q2⟩ := tri_cells hQ
 have hl := lt_of_block hQ
 have D : Hid (Below w.heap.size w W.drew) := bW.drew
 have D0 : Hid (Below w.heap.size w W) := bW
 have HW := hid hW
 have HQ : Hid (W.drew.heap[w.heap.size]? = some (.cells #[.int .i64 a, .int .i64 b, .iface y x] 272 (0, 0))) := hQ
 have M2 : ∀ w : World, ((Sem.run Tryz.prog (method 434 y x "loop.example/s0063/impl.value") w).andThen fun a w' => Sem.run Tryz.prog (callFunc a.fst #[a.snd, Value.pointer (some ⟨mb, 0, none⟩)]) w') = .ok (.enter f #[x, .pointer (some ⟨mb, 0, none⟩)]) w := fun w => by
  have := M.out w
  simpa [callMethod, vname, go_sem] using this
 clear hQ bW hW
 go_enter Tryz.func221, Tryz.ntmps221
 go_wp2_with fail
 rw [← HW.out]
 go_region_held3 (fun w' => w'.cell? ⟨w.heap.size, 0, none⟩ = some (.int .i64 a) ∧ w'.cell? ⟨w.heap.size, 1, none⟩ = some (.int .i64 b) ∧ w'.cell? ⟨w.heap.size, 2, none⟩ = some (.iface y x)) (first | go_keep | exact SX.out | exact SZ.out)
  (first
  | (refine (V.out _ D.out).mono ?_; rintro e w1 ⟨rfl, hb⟩; have B := hid (D.out.trans (hb.mono D.out.size)); have Q1 := hid (block_below HQ.out hb); have SX := hid (tri_cells Q1.out); clear hb)
  | (go_at_call 216; refine (HR.out _ B.out).mono ?_; rintro e w3 ⟨rfl, hb, hst⟩; have B3 := hid hb; have SZ := hid (tri_cells (hst.box Q1.out (by decide) (by decide) (by decide))); clear hb hst))
 all_goals
  go_wp2
  go_end0
  exact ⟨rfl, _, B.out, B3.out⟩
set_option maxRecDepth 100000 in
set_option maxHeartbeats 4000000 in
theorem frontNode_low (y f : Nat) (x : Value) (a b : Int) (mb : Nat) (q : Int) (w : World) (B0 : Nat) (R : World → World → Prop)
  (hm : ∀ (w : World), (callMethod (.iface y x) vname #[.pointer (some ⟨mb, 0, none⟩)]).run Tryz.prog w = .ok (.enter f #[x, .pointer (some ⟨mb, 0, none⟩)]) w)
  (hv : Val w f x (.pointer (some ⟨mb, 0, none⟩)) q)
  (hr : ∀ w', Below w.heap.size w w' → Calls Tryz.prog 216 #[.pointer (some ⟨mb, 0, none⟩), .agg #[.int .i64 4, .int .i64 a, .int .i64 b, .int .i64 q]] w' fun e w'' => e = .returned (.tuple #[]) ∧ R w' w'' ∧ Stir B0 w' w'') :
  Calls Tryz.prog 222 #[.agg #[.int .i64 a, .int .i64 b, .iface y x], .pointer (some ⟨mb, 0, none⟩)] w fun e w' => e = .returned (.tuple #[]) ∧ ∃ w1, Below w.heap.size w w1 ∧ R w1 w' := by
 have M := hid hm
 have V := hid hv
 have HR := hid hr
 clear hm hv hr
 obtain ⟨W, hW⟩ : ∃ W, W = w.alloc (.cells #[.int .i64 a, .int .i64 b, .iface y x] 273) := ⟨_, rfl⟩
 have bW : Below w.heap.size w W := by rw [hW]; exact below1 _ _
 have hQ : W.heap[w.heap.size]? = some (.cells #[.int .i64 a, .int .i64 b, .iface y x] 273 (0, 0)) := by rw [hW]; exact heap_alloc_new w _
 obtain ⟨q0, q1, q2⟩ := tri_cells hQ
 have hl := lt_of_block hQ
 have D : Hid (Below w.heap.size w W.drew) := bW.drew
 have D0 : Hid (Below w.heap.size w W) := bW
 have HW := hid hW
 have HQ : Hid (W.drew.heap[w.heap.size]? = some (.cells #[.int .i64 a, .int .i64 b, .iface y x] 273 (0, 0))) := hQ
 have M2 : ∀ w : World, ((Sem.run Tryz.prog (method 434 y x "loop.example/s0063/impl.value") w).andThen fun a w' => Sem.run Tryz.prog (callFunc a.fst #[a.snd, Value.pointer (some ⟨mb, 0, none⟩)]) w') = .ok (.enter f #[x, .pointer (some ⟨mb, 0, none⟩)]) w := fun w => by
  have := M.out w
  simpa [callMethod, vname, go_sem] using this
 clear hQ bW hW
 go_enter Tryz.func222, Tryz.ntmps222
 go_wp2_with fail
 rw [← HW.out]
 go_region_held3 (fun w' => w'.cell? ⟨w.heap.size, 0, none⟩ = some (.int .i64 a) ∧ w'.cell? ⟨w.heap.size, 1, none⟩ = some (.int .i64 b) ∧ w'.cell? ⟨w.heap.size, 2, none⟩ = some (.iface y x)) (first | go_keep | exact SX.out | exact SZ.out)
  (first
  | (refine (V.out _ D.out).mono ?_; rintro e w1 ⟨rfl, hb⟩; have B := hid (D.out.trans (hb.mono D.out.size)); have Q1 := hid (block_below HQ.out hb); have SX := hid (tri_cells Q1.out); clear hb)
  | (go_at_call 216; refine (HR.out _ B.out).mono ?_; rintro e w3 ⟨rfl, hb, hst⟩; have B3 := hid hb; have SZ := hid (tri_cells (hst.box Q1.out (by decide) (by decide) (by decide))); clear hb hst))
 all_goals
  go_wp2
  go_end0
  exact ⟨rfl, _, B.out, B3.out⟩
set_option maxRecDepth 100000 in
set_option maxHeartbeats 4000000 in
theorem publishNode_low (y f : Nat) (x : Value) (b : Int) (mb : Nat) (q : Int) (w : World) (B0 : Nat) (R : World → World → Prop)
  (hm : ∀ (w : World), (callMethod (.iface y x) vname #[.pointer (some ⟨mb, 0, none⟩)]).run Tryz.prog w = .ok (.enter f #[x, .pointer (some ⟨mb, 0, none⟩)]) w)
  (hv : Val w f x (.pointer (some ⟨mb, 0, none⟩)) q)
  (hr : ∀ w', Below w.heap.size w w' → Calls Tryz.prog 216 #[.pointer (some ⟨mb, 0, none⟩), .agg #[.int .i64 5, .int .i64 0, .int .i64 b, .int .i64 q]] w' fun e w'' => e = .returned (.tuple #[]) ∧ R w' w'' ∧ Stir B0 w' w'') :
  Calls Tryz.prog 223 #[.agg #[.int .i64 b, .iface y x], .pointer (some ⟨mb, 0, none⟩)] w fun e w' => e = .returned (.tuple #[]) ∧ ∃ w1, Below w.heap.size w w1 ∧ R w1 w' := by
 have M := hid hm
 have V := hid hv
 have HR := hid hr
 clear hm hv hr
 obtain ⟨W, hW⟩ : ∃ W, W = w.alloc (.cells #[.int .i64 b, .iface y x] 275) := ⟨_, rfl⟩
 have bW : Below w.heap.size w W := by rw [hW]; exact below1 _ _
 have hQ : W.heap[w.heap.size]? = some (.cells #[.int .i64 b, .iface y x] 275 (0, 0)) := by rw [hW]; exact heap_alloc_new w _
 obtain ⟨q0, q1, _, _⟩ := pair_cells hQ
 have hl := lt_of_block hQ
 have D : Hid (Below w.heap.size w W.drew) := bW.drew
 have D0 : Hid (Below w.heap.size w W) := bW
 have HW := hid hW
 have HQ : Hid (W.drew.heap[w.heap.size]? = some (.cells #[.int .i64 b, .iface y x] 275 (0, 0))) := hQ
 have M2 : ∀ w : World, ((Sem.run Tryz.prog (method 434 y x "loop.example/s0063/impl.value") w).andThen fun a w' => Sem.run Tryz.prog (callFunc a.fst #[a.snd, Value.pointer (some ⟨mb, 0, none⟩)]) w') = .ok (.enter f #[x, .pointer (some ⟨mb, 0, none⟩)]) w := fun w => by
  have := M.out w
  simpa [callMethod, vname, go_sem] using this
 clear hQ bW hW
 go_enter Tryz.func223, Tryz.ntmps223
 go_wp2_with fail
 rw [← HW.out]
 go_region_held3 (fun w' => w'.cell? ⟨w.heap.size, 0, none⟩ = some (.int .i64 b) ∧ w'.cell? ⟨w.heap.size, 1, none⟩ = some (.iface y x)) (first | go_keep | exact SX.out | exact SZ.out)
  (first
  | (refine (V.out _ D.out).mono ?_; rintro e w1 ⟨rfl, hb⟩; have B := hid (D.out.trans (hb.mono D.out.size)); have Q1 := hid (block_below HQ.out hb); have SX := hid (two_cells' Q1.out); clear hb)
  | (go_at_call 216; refine (HR.out _ B.out).mono ?_; rintro e w3 ⟨rfl, hb, hst⟩; have B3 := hid hb; have SZ := hid (two_cells' (hst.box Q1.out (by decide) (by decide) (by decide))); clear hb hst))
 all_goals
  go_wp2
  go_end0
  exact ⟨rfl, _, B.out, B3.out⟩
set_option maxRecDepth 100000 in
set_option maxHeartbeats 4000000 in
theorem armNode_low (y f : Nat) (x : Value) (a b : Int) (mb : Nat) (q : Int) (w : World) (B0 : Nat) (R : World → World → Prop)
  (hm : ∀ (w : World), (callMethod (.iface y x) vname #[.pointer (some ⟨mb, 0, none⟩)]).run Tryz.prog w = .ok (.enter f #[x, .pointer (some ⟨mb, 0, none⟩)]) w)
  (hv : Val w f x (.pointer (some ⟨mb, 0, none⟩)) q)
  (hr : ∀ w', Below w.heap.size w w' → Calls Tryz.prog 216 #[.pointer (some ⟨mb, 0, none⟩), .agg #[.int .i64 8, .int .i64 a, .int .i64 b, .int .i64 q]] w' fun e w'' => e = .returned (.tuple #[]) ∧ R w' w'' ∧ Stir B0 w' w'') :
  Calls Tryz.prog 224 #[.agg #[.int .i64 a, .int .i64 b, .iface y x], .pointer (some ⟨mb, 0, none⟩)] w fun e w' => e = .returned (.tuple #[]) ∧ ∃ w1, Below w.heap.size w w1 ∧ R w1 w' := by
 have M := hid hm
 have V := hid hv
 have HR := hid hr
 clear hm hv hr
 obtain ⟨W, hW⟩ : ∃ W, W = w.alloc (.cells #[.int .i64 a, .int .i64 b, .iface y x] 277) := ⟨_, rfl⟩
 have bW : Below w.heap.size w W := by rw [hW]; exact below1 _ _
 have hQ : W.heap[w.heap.size]? = some (.cells #[.int .i64 a, .int .i64 b, .iface y x] 277 (0, 0)) := by rw [hW]; exact heap_alloc_new w _
 obtain ⟨q0, q1, q2⟩ := tri_cells hQ
 have hl := lt_of_block hQ
 have D : Hid (Below w.heap.size w W.drew) := bW.drew
 have D0 : Hid (Below w.heap.size w W) := bW
 have HW := hid hW
 have HQ : Hid (W.drew.heap[w.heap.size]? = some (.cells #[.int .i64 a, .int .i64 b, .iface y x] 277 (0, 0))) := hQ
 have M2 : ∀ w : World, ((Sem.run Tryz.prog (method 434 y x "loop.example/s0063/impl.value") w).andThen fun a w' => Sem.run Tryz.prog (callFunc a.fst #[a.snd, Value.pointer (some ⟨mb, 0, none⟩)]) w') = .ok (.enter f #[x, .pointer (some ⟨mb, 0, none⟩)]) w := fun w => by
  have := M.out w
  simpa [callMethod, vname, go_sem] using this
 clear hQ bW hW
 go_enter Tryz.func224, Tryz.ntmps224
 go_wp2_with fail
 rw [← HW.out]
 go_region_held3 (fun w' => w'.cell? ⟨w.heap.size, 0, none⟩ = some (.int .i64 a) ∧ w'.cell? ⟨w.heap.size, 1, none⟩ = some (.int .i64 b) ∧ w'.cell? ⟨w.heap.size, 2, none⟩ = some (.iface y x)) (first | go_keep | exact SX.out | exact SZ.out)
  (first
  | (refine (V.out _ D.out).mono ?_; rintro e w1 ⟨rfl, hb⟩; have B := hid (D.out.trans (hb.mono D.out.size)); have Q1 := hid (block_below HQ.out hb); have SX := hid (tri_cells Q1.out); clear hb)
  | (go_at_call 216; refine (HR.out _ B.out).mono ?_; rintro e w3 ⟨rfl, hb, hst⟩; have B3 := hid hb; have SZ := hid (tri_cells (hst.box Q1.out (by decide) (by decide) (by decide))); clear hb hst))
 all_goals
  go_wp2
  go_end0
  exact ⟨rfl, _, B.out, B3.out⟩
set_option maxHeartbeats 1000000 in
theorem deferNode_low (mb : Nat) (w : World) (B : Nat) (ks vs : List Int) (arg : Int) (es : List EffD) (he : es.length ≤ 1000000) (hB : B ≤ w.heap.size) (hM : Mom w B mb ks vs arg es) :
  Calls Tryz.prog 215 #[.agg #[], .pointer (some ⟨mb, 0, none⟩)] w fun e w' => e = .returned (.tuple #[]) ∧ Mom w' B mb ks vs arg (es ++ [⟨6, 0, 0, 0⟩]) ∧ Stir B w w' := by
 have N : Hid (∀ w', Below w.heap.size w w' → Calls Tryz.prog 216 #[.pointer (some ⟨mb, 0, none⟩), .agg #[.int .i64 6, .int .i64 0, .int .i64 0, .int .i64 0]] w' fun e w'' => e = .returned (.tuple #[]) ∧ Mom w'' B mb ks vs arg (es ++ [⟨6, 0, 0, 0⟩]) ∧ Stir B w w'') :=
  fun w' hb => (note_any mb ks vs arg es ⟨6, 0, 0, 0⟩ B w' he (Nat.le_trans hB hb.size) (hM.below hb)).mono fun e w'' ⟨h1, h2, h3⟩ => ⟨h1, h2, (Stir.of_below hb).trans h3⟩
 clear hM
 go_enter Tryz.func215, Tryz.ntmps215
 go_wp2_with (go_at_call 216; refine (N.out _ (by first | exact Below.refl _ _ | exact below1 _ _ | exact below2 _ _ _)).mono ?_; rintro e w3 ⟨rfl, hb⟩; have B3 := hid hb; clear hb)
 go_end0
 exact ⟨rfl, B3.out.1, B3.out.2⟩
set_option maxHeartbeats 1000000 in
theorem recallNode_low (mb : Nat) (w : World) (B : Nat) (ks vs : List Int) (arg : Int) (es : List EffD) (he : es.length ≤ 1000000) (hB : B ≤ w.heap.size) (hM : Mom w B mb ks vs arg es) :
  Calls Tryz.prog 217 #[.agg #[], .pointer (some ⟨mb, 0, none⟩)] w fun e w' => e = .returned (.tuple #[]) ∧ Mom w' B mb ks vs arg (es ++ [⟨7, 0, 0, 0⟩]) ∧ Stir B w w' := by
 have N : Hid (∀ w', Below w.heap.size w w' → Calls Tryz.prog 216 #[.pointer (some ⟨mb, 0, none⟩), .agg #[.int .i64 7, .int .i64 0, .int .i64 0, .int .i64 0]] w' fun e w'' => e = .returned (.tuple #[]) ∧ Mom w'' B mb ks vs arg (es ++ [⟨7, 0, 0, 0⟩]) ∧ Stir B w w'') :=
  fun w' hb => (note_any mb ks vs arg es ⟨7, 0, 0, 0⟩ B w' he (Nat.le_trans hB hb.size) (hM.below hb)).mono fun e w'' ⟨h1, h2, h3⟩ => ⟨h1, h2, (Stir.of_below hb).trans h3⟩
 clear hM
 go_enter Tryz.func217, Tryz.ntmps217
 go_wp2_with (go_at_call 216; refine (N.out _ (by first | exact Below.refl _ _ | exact below1 _ _ | exact below2 _ _ _)).mono ?_; rintro e w3 ⟨rfl, hb⟩; have B3 := hid hb; clear hb)
 go_end0
 exact ⟨rfl, B3.out.1, B3.out.2⟩
set_option maxHeartbeats 1000000 in
theorem disarmNode_low (a : Int) (mb : Nat) (w : World) (B : Nat) (ks vs : List Int) (arg : Int) (es : List EffD) (he : es.length ≤ 1000000) (hB : B ≤ w.heap.size) (hM : Mom w B mb ks vs arg es) :
  Calls Tryz.prog 218 #[.agg #[.int .i64 a], .pointer (some ⟨mb, 0, none⟩)] w fun e w' => e = .returned (.tuple #[]) ∧ Mom w' B mb ks vs arg (es ++ [⟨9, a, 0, 0⟩]) ∧ Stir B w w' := by
 have N : Hid (∀ w', Below w.heap.size w w' → Calls Tryz.prog 216 #[.pointer (some ⟨mb, 0, none⟩), .agg #[.int .i64 9, .int .i64 a, .int .i64 0, .int .i64 0]] w' fun e w'' => e = .returned (.tuple #[]) ∧ Mom w'' B mb ks vs arg (es ++ [⟨9, a, 0, 0⟩]) ∧ Stir B w w'') :=
  fun w' hb => (note_any mb ks vs arg es ⟨9, a, 0, 0⟩ B w' he (Nat.le_trans hB hb.size) (hM.below hb)).mono fun e w'' ⟨h1, h2, h3⟩ => ⟨h1, h2, (Stir.of_below hb).trans h3⟩
 clear hM
 go_enter Tryz.func218, Tryz.ntmps218
 go_wp2_with (go_at_call 216; refine (N.out _ (by first | exact Below.refl _ _ | exact below1 _ _ | exact below2 _ _ _)).mono ?_; rintro e w3 ⟨rfl, hb⟩; have B3 := hid hb; clear hb)
 go_end0
 exact ⟨rfl, B3.out.1, B3.out.2⟩
end Go.Proofs.YtiimkhepplkocaaGreat
namespace Go.Proofs.YtiimkhepplkocaaGreat
open Go.RowKit Go.Sort
attribute [local go_sem ↓] Go.wp_at_zero Go.wp_at_succ
def codeV (n : Int) (vs : List Int) (arg : Int) (code : List (Int × Int)) : Int := match liftT code n with | some t => evalT vs arg t | none => 0
def stepS (n : Int) (ks : List Int) (arg : Int) (vs : List Int) (s : StmD) : List Int × List EffD :=
 if s.kind = 1 then (vs.set s.a.toNat (conv (ks.getD s.a.toNat 0) (codeV n vs arg s.code)), [])
 else (vs, [⟨s.kind, s.a, s.b, if hasB s.kind then codeV n vs arg s.code else 0⟩])
def execS (n : Int) (ks : List Int) (arg : Int) : List Int → List StmD → List Int × List EffD
 | vs, [] => (vs, [])
 | vs, s :: r => ((execS n ks arg (stepS n ks arg vs s).1 r).1, (stepS n ks arg vs s).2 ++ (execS n ks arg (stepS n ks arg vs s).1 r).2)
theorem execS_append (n : Int) (ks : List Int) (arg : Int) (b : List StmD) : ∀ (a : List StmD) (vs : List Int), execS n ks arg vs (a ++ b) = ((execS n ks arg (execS n ks arg vs a).1 b).1, (execS n ks arg vs a).2 ++ (execS n ks arg (execS n ks arg vs a).1 b).2) := by
 intro a
 induction a with
 | nil => intro vs; simp [execS]
 | cons s r ih => intro vs; simp [execS, ih]
theorem stepS_len (n : Int) (ks : List Int) (arg : Int) (vs : List Int) (s : StmD) : (stepS n ks arg vs s).1.length = vs.length ∧ (stepS n ks arg vs s).2.length ≤ 1 := by
 unfold stepS
 split <;> simp
theorem execS_len (n : Int) (ks : List Int) (arg : Int) : ∀ (a : List StmD) (vs : List Int), (execS n ks arg vs a).1.length = vs.length ∧ (execS n ks arg vs a).2.length ≤ a.length := by
 intro a
 induction a with
 | nil => intro vs; simp [execS]
 | cons s r ih =>
  intro vs
  have h1 := stepS_len n ks arg vs s
  have h2 := ih (stepS n ks arg vs s).1
  simp only [execS, List.length_append, List.length_cons]
  omega
def cname : String := "loop.example/s0063/impl.carryOut"
set_option maxRecDepth 100000 in
theorem cm_set (a b : Value) (mb : Nat) (w : World) : (callMethod (.iface 268 (.agg #[a, b])) cname #[.pointer (some ⟨mb, 0, none⟩)]).run Tryz.prog w = .ok (.enter 219 #[.agg #[a, b], .pointer (some ⟨mb, 0, none⟩)]) w := by kernel_rfl
set_option maxRecDepth 100000 in
theorem cm_emit (a : Value) (mb : Nat) (w : World) : (callMethod (.iface 270 (.agg #[a])) cname #[.pointer (some ⟨mb, 0, none⟩)]).run Tryz.prog w = .ok (.enter 220 #[.agg #[a], .pointer (some ⟨mb, 0, none⟩)]) w := by kernel_rfl
set_option maxRecDepth 100000 in
theorem cm_post (a b c : Value) (mb : Nat) (w : World) : (callMethod (.iface 272 (.agg #[a, b, c])) cname #[.pointer (some ⟨mb, 0, none⟩)]).run Tryz.prog w = .ok (.enter 221 #[.agg #[a, b, c], .pointer (some ⟨mb, 0, none⟩)]) w := by kernel_rfl
set_option maxRecDepth 100000 in
theorem cm_front (a b c : Value) (mb : Nat) (w : World) : (callMethod (.iface 273 (.agg #[a, b, c])) cname #[.pointer (some ⟨mb, 0, none⟩)]).run Tryz.prog w = .ok (.enter 222 #[.agg #[a, b, c], .pointer (some ⟨mb, 0, none⟩)]) w := by kernel_rfl
set_option maxRecDepth 100000 in
theorem cm_publish (a b : Value) (mb : Nat) (w : World) : (callMethod (.iface 275 (.agg #[a, b])) cname #[.pointer (some ⟨mb, 0, none⟩)]).run Tryz.prog w = .ok (.enter 223 #[.agg #[a, b], .pointer (some ⟨mb, 0, none⟩)]) w := by kernel_rfl
set_option maxRecDepth 100000 in
theorem cm_defer (mb : Nat) (w : World) : (callMethod (.iface 263 (.agg #[])) cname #[.pointer (some ⟨mb, 0, none⟩)]).run Tryz.prog w = .ok (.enter 215 #[.agg #[], .pointer (some ⟨mb, 0, none⟩)]) w := by kernel_rfl
set_option maxRecDepth 100000 in
theorem cm_recall (mb : Nat) (w : World) : (callMethod (.iface 264 (.agg #[])) cname #[.pointer (some ⟨mb, 0, none⟩)]).run Tryz.prog w = .ok (.enter 217 #[.agg #[], .pointer (some ⟨mb, 0, none⟩)]) w := by kernel_rfl
set_option maxRecDepth 100000 in
theorem cm_arm (a b c : Value) (mb : Nat) (w : World) : (callMethod (.iface 277 (.agg #[a, b, c])) cname #[.pointer (some ⟨mb, 0, none⟩)]).run Tryz.prog w = .ok (.enter 224 #[.agg #[a, b, c], .pointer (some ⟨mb, 0, none⟩)]) w := by kernel_rfl
set_option maxRecDepth 100000 in
theorem cm_disarm (a : Value) (mb : Nat) (w : World) : (callMethod (.iface 266 (.agg #[a])) cname #[.pointer (some ⟨mb, 0, none⟩)]).run Tryz.prog w = .ok (.enter 218 #[.agg #[a], .pointer (some ⟨mb, 0, none⟩)]) w := by kernel_rfl
def Carries (l : LimD) (s : StmD) (v : Value) : Prop := ∀ (mb : Nat), ∃ y x f, v = .iface y x ∧ (∀ w : World, (callMethod (.iface y x) cname #[.pointer (some ⟨mb, 0, none⟩)]).run Tryz.prog w = .ok (.enter f #[x, .pointer (some ⟨mb, 0, none⟩)]) w) ∧
 ∀ (B : Nat) (ks vs : List Int) (arg : Int) (es : List EffD) (w : World), l.v = vs.length → ks.length = vs.length → (∀ i, i < ks.length → 1 ≤ ks.getD i 0 ∧ ks.getD i 0 ≤ 7) → es.length ≤ 1000000 → B ≤ w.heap.size → Mom w B mb ks vs arg es →
  Calls Tryz.prog f #[x, .pointer (some ⟨mb, 0, none⟩)] w fun e w' => e = .returned (.tuple #[]) ∧ Mom w' B mb ks (stepS l.v ks arg vs s).1 arg (es ++ (stepS l.v ks arg vs s).2) ∧ Stir B w w'
theorem val_of {l : LimD} {code : List (Int × Int)} {t : Tree} {mb B : Nat} {ks vs : List Int} {arg : Int} {es : List EffD} {w : World} (ht : liftT code l.v = some t) (hl : l.v = vs.length) (hM : Mom w B mb ks vs arg es) : Val w (fnOf t) (pl t) (.pointer (some ⟨mb, 0, none⟩)) (evalT vs arg t) := fun w' hb => by
 have hwf := liftT_wf ht
 rw [hl] at hwf
 exact value_any mb vs arg t hwf w' (hM.at.below hb)
theorem carry_emit {l : LimD} {s : StmD} {t : Tree} (hk0 : s.kind = 2) (ht : liftT s.code l.v = some t) (ha : s.a = 0) (hb0 : s.b = 0) : Carries l s (.iface 270 (.agg #[tv t])) := by
 intro mb
 refine ⟨_, _, 220, rfl, fun w => cm_emit  _ mb w, fun B ks vs arg es w hl hkv hk he hB hM => ?_⟩
 obtain ⟨y, x, hy⟩ := tv_form t
 have hx := pl_of hy
 have hwf := liftT_wf ht
 have hst : stepS l.v ks arg vs s = (vs, [⟨2, 0, 0, evalT vs arg t⟩]) := by
  simp [stepS, hk0, hasB, codeV, ht, ha, hb0]
 rw [hst, hy]
 refine (emitNode_low y (fnOf t) x mb (evalT vs arg t) w B (fun w' w'' => Mom w' B mb ks vs arg es → B ≤ w'.heap.size → Mom w'' B mb ks vs arg (es ++ [⟨2, 0, 0, evalT vs arg t⟩]) ∧ Stir B w' w'') (fun w => ?_) ?_ (fun w' hb => ?_)).mono ?_
 ·rw [← hy, hx]; exact cm_any _ t hwf _ w
 ·rw [hx]; exact val_of ht hl hM
 ·exact (note_any mb ks vs arg es ⟨2, 0, 0, evalT vs arg t⟩ B w' he (Nat.le_trans hB hb.size) (hM.below hb)).mono fun e w'' ⟨h1, h2, h3⟩ => ⟨h1, fun _ _ => ⟨h2, h3⟩, h3⟩
 ·rintro e w2 ⟨he, w3, hb3, hR⟩
  obtain ⟨r1, r2⟩ := hR (hM.below hb3) (Nat.le_trans hB hb3.size)
  exact ⟨he, r1, (Stir.of_below hb3).trans r2⟩
theorem carry_post {l : LimD} {s : StmD} {t : Tree} (hk0 : s.kind = 3) (ht : liftT s.code l.v = some t) : Carries l s (.iface 272 (.agg #[.int .i64 s.a, .int .i64 s.b, tv t])) := by
 intro mb
 refine ⟨_, _, 221, rfl, fun w => cm_post _ _ _ mb w, fun B ks vs arg es w hl hkv hk he hB hM => ?_⟩
 obtain ⟨y, x, hy⟩ := tv_form t
 have hx := pl_of hy
 have hwf := liftT_wf ht
 have hst : stepS l.v ks arg vs s = (vs, [⟨3, s.a, s.b, evalT vs arg t⟩]) := by
  simp [stepS, hk0, hasB, codeV, ht]
 rw [hst, hy]
 refine (postNode_low y (fnOf t) x s.a s.b mb (evalT vs arg t) w B (fun w' w'' => Mom w' B mb ks vs arg es → B ≤ w'.heap.size → Mom w'' B mb ks vs arg (es ++ [⟨3, s.a, s.b, evalT vs arg t⟩]) ∧ Stir B w' w'') (fun w => ?_) ?_ (fun w' hb => ?_)).mono ?_
 ·rw [← hy, hx]; exact cm_any _ t hwf _ w
 ·rw [hx]; exact val_of ht hl hM
 ·exact (note_any mb ks vs arg es ⟨3, s.a, s.b, evalT vs arg t⟩ B w' he (Nat.le_trans hB hb.size) (hM.below hb)).mono fun e w'' ⟨h1, h2, h3⟩ => ⟨h1, fun _ _ => ⟨h2, h3⟩, h3⟩
 ·rintro e w2 ⟨he, w3, hb3, hR⟩
  obtain ⟨r1, r2⟩ := hR (hM.below hb3) (Nat.le_trans hB hb3.size)
  exact ⟨he, r1, (Stir.of_below hb3).trans r2⟩
theorem carry_front {l : LimD} {s : StmD} {t : Tree} (hk0 : s.kind = 4) (ht : liftT s.code l.v = some t) : Carries l s (.iface 273 (.agg #[.int .i64 s.a, .int .i64 s.b, tv t])) := by
 intro mb
 refine ⟨_, _, 222, rfl, fun w => cm_front _ _ _ mb w, fun B ks vs arg es w hl hkv hk he hB hM => ?_⟩
 obtain ⟨y, x, hy⟩ := tv_form t
 have hx := pl_of hy
 have hwf := liftT_wf ht
 have hst : stepS l.v ks arg vs s = (vs, [⟨4, s.a, s.b, evalT vs arg t⟩]) := by
  simp [stepS, hk0, hasB, codeV, ht]
 rw [hst, hy]
 refine (frontNode_low y (fnOf t) x s.a s.b mb (evalT vs arg t) w B (fun w' w'' => Mom w' B mb ks vs arg es → B ≤ w'.heap.size → Mom w'' B mb ks vs arg (es ++ [⟨4, s.a, s.b, evalT vs arg t⟩]) ∧ Stir B w' w'') (fun w => ?_) ?_ (fun w' hb => ?_)).mono ?_
 ·rw [← hy, hx]; exact cm_any _ t hwf _ w
 ·rw [hx]; exact val_of ht hl hM
 ·exact (note_any mb ks vs arg es ⟨4, s.a, s.b, evalT vs arg t⟩ B w' he (Nat.le_trans hB hb.size) (hM.below hb)).mono fun e w'' ⟨h1, h2, h3⟩ => ⟨h1, fun _ _ => ⟨h2, h3⟩, h3⟩
 ·rintro e w2 ⟨he, w3, hb3, hR⟩
  obtain ⟨r1, r2⟩ := hR (hM.below hb3) (Nat.le_trans hB hb3.size)
  exact ⟨he, r1, (Stir.of_below hb3).trans r2⟩
theorem carry_publish {l : LimD} {s : StmD} {t : Tree} (hk0 : s.kind = 5) (ht : liftT s.code l.v = some t) (ha : s.a = 0) : Carries l s (.iface 275 (.agg #[.int .i64 s.b, tv t])) := by
 intro mb
 refine ⟨_, _, 223, rfl, fun w => cm_publish _ _ mb w, fun B ks vs arg es w hl hkv hk he hB hM => ?_⟩
 obtain ⟨y, x, hy⟩ := tv_form t
 have hx := pl_of hy
 have hwf := liftT_wf ht
 have hst : stepS l.v ks arg vs s = (vs, [⟨5, 0, s.b, evalT vs arg t⟩]) := by
  simp [stepS, hk0, hasB, codeV, ht, ha]
 rw [hst, hy]
 refine (publishNode_low y (fnOf t) x s.b mb (evalT vs arg t) w B (fun w' w'' => Mom w' B mb ks vs arg es → B ≤ w'.heap.size → Mom w'' B mb ks vs arg (es ++ [⟨5, 0, s.b, evalT vs arg t⟩]) ∧ Stir B w' w'') (fun w => ?_) ?_ (fun w' hb => ?_)).mono ?_
 ·rw [← hy, hx]; exact cm_any _ t hwf _ w
 ·rw [hx]; exact val_of ht hl hM
 ·exact (note_any mb ks vs arg es ⟨5, 0, s.b, evalT vs arg t⟩ B w' he (Nat.le_trans hB hb.size) (hM.below hb)).mono fun e w'' ⟨h1, h2, h3⟩ => ⟨h1, fun _ _ => ⟨h2, h3⟩, h3⟩
 ·rintro e w2 ⟨he, w3, hb3, hR⟩
  obtain ⟨r1, r2⟩ := hR (hM.below hb3) (Nat.le_trans hB hb3.size)
  exact ⟨he, r1, (Stir.of_below hb3).trans r2⟩
theorem carry_arm {l : LimD} {s : StmD} {t : Tree} (hk0 : s.kind = 8) (ht : liftT s.code l.v = some t) : Carries l s (.iface 277 (.agg #[.int .i64 s.a, .int .i64 s.b, tv t])) := by
 intro mb
 refine ⟨_, _, 224, rfl, fun w => cm_arm _ _ _ mb w, fun B ks vs arg es w hl hkv hk he hB hM => ?_⟩
 obtain ⟨y, x, hy⟩ := tv_form t
 have hx := pl_of hy
 have hwf := liftT_wf ht
 have hst : stepS l.v ks arg vs s = (vs, [⟨8, s.a, s.b, evalT vs arg t⟩]) := by
  simp [stepS, hk0, hasB, codeV, ht]
 rw [hst, hy]
 refine (armNode_low y (fnOf t) x s.a s.b mb (evalT vs arg t) w B (fun w' w'' => Mom w' B mb ks vs arg es → B ≤ w'.heap.size → Mom w'' B mb ks vs arg (es ++ [⟨8, s.a, s.b, evalT vs arg t⟩]) ∧ Stir B w' w'') (fun w => ?_) ?_ (fun w' hb => ?_)).mono ?_
 ·rw [← hy, hx]; exact cm_any _ t hwf _ w
 ·rw [hx]; exact val_of ht hl hM
 ·exact (note_any mb ks vs arg es ⟨8, s.a, s.b, evalT vs arg t⟩ B w' he (Nat.le_trans hB hb.size) (hM.below hb)).mono fun e w'' ⟨h1, h2, h3⟩ => ⟨h1, fun _ _ => ⟨h2, h3⟩, h3⟩
 ·rintro e w2 ⟨he, w3, hb3, hR⟩
  obtain ⟨r1, r2⟩ := hR (hM.below hb3) (Nat.le_trans hB hb3.size)
  exact ⟨he, r1, (Stir.of_below hb3).trans r2⟩
theorem carry_defer {l : LimD} {s : StmD} (hk0 : s.kind = 6) (ha : s.a = 0) (hb0 : s.b = 0) : Carries l s (.iface 263 (.agg #[])) := by
 intro mb
 refine ⟨_, _, 215, rfl, fun w => cm_defer mb w, fun B ks vs arg es w hl hkv hk he hB hM => ?_⟩
 have hst : stepS l.v ks arg vs s = (vs, [⟨6, 0, 0, 0⟩]) := by
  simp [stepS, hk0, hasB, ha, hb0]
 rw [hst]
 exact (deferNode_low mb w B ks vs arg es he hB hM).mono fun e w' h => h
theorem carry_recall {l : LimD} {s : StmD} (hk0 : s.kind = 7) (ha : s.a = 0) (hb0 : s.b = 0) : Carries l s (.iface 264 (.agg #[])) := by
 intro mb
 refine ⟨_, _, 217, rfl, fun w => cm_recall mb w, fun B ks vs arg es w hl hkv hk he hB hM => ?_⟩
 have hst : stepS l.v ks arg vs s = (vs, [⟨7, 0, 0, 0⟩]) := by
  simp [stepS, hk0, hasB, ha, hb0]
 rw [hst]
 exact (recallNode_low mb w B ks vs arg es he hB hM).mono fun e w' h => h
theorem carry_disarm {l : LimD} {s : StmD} (hk0 : s.kind = 9) (hb0 : s.b = 0) : Carries l s (.iface 266 (.agg #[.int .i64 s.a])) := by
 intro mb
 refine ⟨_, _, 218, rfl, fun w => cm_disarm _ mb w, fun B ks vs arg es w hl hkv hk he hB hM => ?_⟩
 have hst : stepS l.v ks arg vs s = (vs, [⟨9, s.a, 0, 0⟩]) := by
  simp [stepS, hk0, hasB, hb0]
 rw [hst]
 exact (disarmNode_low s.a mb w B ks vs arg es he hB hM).mono fun e w' h => h
theorem carry_set {l : LimD} {s : StmD} {t : Tree} (hk0 : s.kind = 1) (ht : liftT s.code l.v = some t) (ha0 : 0 ≤ s.a) (ha1 : s.a < l.v) : Carries l s (.iface 268 (.agg #[.int .i64 s.a, tv t])) := by
 intro mb
 refine ⟨_, _, 219, rfl, fun w => cm_set _ _ mb w, fun B ks vs arg es w hl hkv hk he hB hM => ?_⟩
 obtain ⟨y, x, hy⟩ := tv_form t
 have hx := pl_of hy
 have hwf := liftT_wf ht
 obtain ⟨i, hi⟩ : ∃ i : Nat, s.a = i := ⟨s.a.toNat, by omega⟩
 have hst : stepS l.v ks arg vs s = (vs.set i (conv (ks.getD i 0) (evalT vs arg t)), []) := by
  simp [stepS, hk0, codeV, ht, hi]
 have hik : i < ks.length := by omega
 rw [hst, hy, hi]
 simp only [List.append_nil]
 refine (setNode_low y (fnOf t) x mb i (evalT vs arg t) w (fun w' w'' => Mom w' B mb ks vs arg es → Mom w'' B mb ks (vs.set i (conv (ks.getD i 0) (evalT vs arg t))) arg es ∧ Stir B w' w'') (fun w => ?_) ?_ (fun w' hb => ?_)).mono ?_
 ·rw [← hy, hx]; exact cm_any _ t hwf _ w
 ·rw [hx]; exact val_of ht hl hM
 ·exact (mom_set mb i ks vs arg (evalT vs arg t) es B w' hik (by omega) (hk i hik).1 (hk i hik).2 (hM.below hb)).mono fun e w'' ⟨h1, h2, h3⟩ => ⟨h1, fun _ => ⟨h2, h3⟩⟩
 ·rintro e w2 ⟨he, w3, hb3, hR⟩
  obtain ⟨r1, r2⟩ := hR (hM.below hb3)
  exact ⟨he, r1, (Stir.of_below hb3).trans r2⟩
theorem carry_any {l : LimD} {s : StmD} {v : Value} (h : nodeOf l s = some v) : Carries l s v := by
 unfold nodeOf at h
 split at h
 ·cases h
 ·rename_i hf
  simp only [fieldsB, Bool.not_eq_false, Bool.and_eq_true, decide_eq_true_eq] at hf
  obtain ⟨⟨hfa, hfb⟩, hfc⟩ := hf
  split at h
  ·rename_i hk0; simp [fieldA, hk0] at hfa; simp [fieldB, hk0] at hfb; cases h; exact carry_defer hk0 (by omega) (by omega)
  ·split at h
   ·rename_i hk0; simp [fieldA, hk0] at hfa; simp [fieldB, hk0] at hfb; cases h; exact carry_recall hk0 (by omega) (by omega)
   ·split at h
    ·rename_i hk0; simp [fieldB, hk0] at hfb; cases h; exact carry_disarm hk0 (by omega)
    ·cases ht : liftT s.code l.v with
     | none => rw [ht] at h; cases h
     | some t =>
      rw [ht] at h
      simp only [Option.bind_some] at h
      split at h
      ·rename_i hk0; simp [fieldA, hk0] at hfa; cases h; exact carry_set hk0 ht (by omega) (by omega)
      ·split at h
       ·rename_i hk0; simp [fieldA, hk0] at hfa; simp [fieldB, hk0] at hfb; cases h; exact carry_emit hk0 ht (by omega) (by omega)
       ·split at h
        ·rename_i hk0; cases h; exact carry_post hk0 ht
        ·split at h
         ·rename_i hk0; cases h; exact carry_front hk0 ht
         ·split at h
          ·rename_i hk0; simp [fieldA, hk0] at hfa; cases h; exact carry_publish hk0 ht (by omega)
          ·split at h
           ·rename_i hk0; cases h; exact carry_arm hk0 ht
           ·cases h
end Go.Proofs.YtiimkhepplkocaaGreat
namespace Go.Proofs.YtiimkhepplkocaaGreat
open Go.RowKit Go.Sort
attribute [local go_sem ↓] Go.wp_at_zero Go.wp_at_succ
theorem nodesR_len (l : LimD) : ∀ (ss : List StmD) (nodes : List Value), nodesR l ss = some nodes → nodes.length = ss.length := by
 intro ss
 induction ss with
 | nil => intro nodes h; simp [nodesR] at h; subst h; rfl
 | cons s r ih =>
  intro nodes h
  simp only [nodesR] at h
  cases h1 : nodeOf l s with
  | none => simp [h1] at h
  | some v =>
   cases h2 : nodesR l r with
   | none => simp [h1, h2] at h
   | some vs => simp [h1, h2] at h; subst h; simp [ih vs h2]
theorem nodesR_get (l : LimD) : ∀ (ss : List StmD) (nodes : List Value) (k : Nat), nodesR l ss = some nodes → k < ss.length → ∃ v, nodeOf l (ss.getD k stm0) = some v ∧ nodes[k]? = some v := by
 intro ss
 induction ss with
 | nil => intro nodes k _ hk; simp at hk
 | cons s r ih =>
  intro nodes k h hk
  simp only [nodesR] at h
  cases h1 : nodeOf l s with
  | none => simp [h1] at h
  | some v =>
   cases h2 : nodesR l r with
   | none => simp [h1, h2] at h
   | some vs =>
    simp [h1, h2] at h
    subst h
    cases k with
    | zero => exact ⟨v, by simpa using h1, rfl⟩
    | succ k => simpa using ih vs k h2 (by simpa using hk)
theorem execS_take (n : Int) (ks : List Int) (arg : Int) (vs : List Int) (ss : List StmD) (k : Nat) (hk : k < ss.length) : execS n ks arg vs (ss.take (k + 1)) = ((stepS n ks arg (execS n ks arg vs (ss.take k)).1 (ss.getD k stm0)).1, (execS n ks arg vs (ss.take k)).2 ++ (stepS n ks arg (execS n ks arg vs (ss.take k)).1 (ss.getD k stm0)).2) := by
 rw [takeS hk, execS_append]
 simp [execS]
set_option maxRecDepth 100000 in
set_option maxHeartbeats 4000000 in
theorem carryOutAll_any (l : LimD) (ss : List StmD) (nodes : List Value) (val : Value) (mb B : Nat) (ks vs : List Int) (arg : Int) (es : List EffD) (w : World) (hno : nodesR l ss = some nodes) (hl : l.v = vs.length) (hkv : ks.length = vs.length) (hk : ∀ i, i < ks.length → 1 ≤ ks.getD i 0 ∧ ks.getD i 0 ≤ 7)
  (he : es.length + ss.length ≤ 1000000) (hB : B ≤ w.heap.size) (hrow : w.ownsRow 0 212 1 val nodes.length nodes) (h : Mom w B mb ks vs arg es) :
  Calls Tryz.prog 68 #[.pointer (some ⟨mb, 0, none⟩), val] w fun e w' => e = .returned (.tuple #[]) ∧ Mom w' B mb ks (execS l.v ks arg vs ss).1 arg (es ++ (execS l.v ks arg vs ss).2) ∧ Stir B w w' := by
 have hnl := nodesR_len l ss nodes hno
 obtain ⟨n, hn⟩ : ∃ n, n = ss.length := ⟨_, rfl⟩
 obtain ⟨ao, c, rfl⟩ : ∃ ao c, val = .slice ao n c := by
  rcases hrow.2 with ⟨e, e0⟩ | ⟨g, cap, cur, e, _⟩
  ·exact ⟨none, 0, by rw [e, hn, ← hnl, e0]⟩
  ·exact ⟨_, cap, by rw [e, hn, ← hnl]⟩
 have NO := hid hno
 have NL := hid hnl
 have N := hid hn
 have ROW := hid hrow
 have HM := hid h
 have KV := hid hkv
 have HK := hid hk
 have HLV := hid hl
 have hn1 : n ≤ 1000000 := by omega
 clear hno hnl hrow h hkv hk hl hn
 go_enter Tryz.func68, Tryz.ntmps68
 go_wp2_with fail
 go_loopg [8] n (fun mm i wr => ∃ k : Nat, k ≤ n ∧ mm = n - k ∧ i = .int .i64 k ∧ Mom wr B mb ks (execS l.v ks arg vs (ss.take k)).1 arg (es ++ (execS l.v ks arg vs (ss.take k)).2) ∧ Stir B w wr)
 case atStart => exact ⟨0, Nat.zero_le _, by omega, rfl, by simpa [execS] using HM.out, Stir.refl _ _⟩
 case round =>
  obtain ⟨k, hk, rfl, rfl, hm, hst⟩ := hrel
  have MM := hid hm
  have ST := hid hst
  by_cases hlt : k < n
  ·obtain ⟨v, hv, hvk⟩ := nodesR_get l ss nodes k NO.out (by rw [← N.out]; exact hlt)
   obtain ⟨y, x, f, rfl, hcm, hcall⟩ := carry_any hv mb
   have hr2 := hst.own ROW.out (by decide) (by decide) (by decide)
   rw [NL.out, ← N.out] at hr2
   obtain ⟨g, cap, e, _, _⟩ := World.ownsRow.form hr2 (by omega)
   simp only [Value.slice.injEq] at e
   obtain ⟨rfl, _, rfl⟩ := e
   have cn := World.ownsRow.cellAt hr2 k (by omega)
   rw [hvk] at cn
   have l2 := execS_len l.v ks arg (ss.take k) vs
   have e2 : (es ++ (execS l.v ks arg vs (ss.take k)).2).length ≤ 1000000 := by
    have h1 := l2.2
    have h2 := N.out
    simp only [List.length_append, List.length_take] at h1 ⊢
    omega
   have C := hid (hcall B ks (execS l.v ks arg vs (ss.take k)).1 arg (es ++ (execS l.v ks arg vs (ss.take k)).2) wr (by rw [l2.1]; exact HLV.out) (by rw [l2.1]; exact KV.out) HK.out e2 (Nat.le_trans hB hst.size) hm)
   have ET := hid (execS_take l.v ks arg vs ss k (by rw [← N.out]; exact hlt))
   have M2 : ∀ w : World, ((Sem.run Tryz.prog (method 434 y x "loop.example/s0063/impl.carryOut") w).andThen fun a w' => Sem.run Tryz.prog (callFunc a.fst #[a.snd, Value.pointer (some ⟨mb, 0, none⟩)]) w') = .ok (.enter f #[x, .pointer (some ⟨mb, 0, none⟩)]) w := fun w => by
    have := hcm w
    simpa [callMethod, cname, go_sem] using this
   have an : (k : Int) < (n : Int) := by omega
   clear hm hst hv hvk hcm hcall hr2 l2 e2
   go_wp2_with (refine C.out.mono ?_; rintro e w6 ⟨rfl, hm6, hs6⟩; have M6 := hid hm6; have S6 := hid hs6; clear hm6 hs6)
   go_roundg (n - (k + 1))
   case measure => omega
   case rel =>
    refine ⟨k + 1, by omega, rfl, by go_num, ?_, ST.out.trans S6.out⟩
    rw [ET.out, ← List.append_assoc]
    exact M6.out
  ·have e : k = n := by omega
   subst e
   clear hm hst
   go_wp2
   go_end0
   have := N.out
   rw [show ss.take k = ss by rw [this]; exact List.take_length] at MM
   exact ⟨rfl, MM.out, ST.out⟩
end Go.Proofs.YtiimkhepplkocaaGreat
