import Derived.Test.YtkkiiffhfjkoaaaGreatDoorPs4
namespace Go.Proofs.YtkkiiffhfjkoaaaGreatDoor
open Go.RowKit Go.Sort
set_option linter.unusedVariables false
attribute [local go_sem ↓] Go.wp_at_zero Go.wp_at_succ

/-- What a statement's fields have given behind j letters of its form. -/
def fldT (k a b : Int) (j : Nat) : List UInt8 := catTo (fun i => [32] ++ Lib.itoa (if (formT k).getD i 0 = 97 then a else b)) j
theorem fldT_all (k a b : Int) : fldT k a b (formT k).length = fieldT (giveA k) a ++ fieldT (giveB k) b := by
  unfold fldT formT fieldT
  cases giveA k <;> cases giveB k <;> simp [catTo]
theorem formT_two (k : Int) : (formT k).length ≤ 2 := by
  unfold formT
  cases giveA k <;> cases giveB k <;> decide
theorem fldT_l {k a b : Int} (ha : I64 a) (hb : I64 b) {j : Nat} (hj : j ≤ 2) : (fldT k a b j).length ≤ 44 := by
  have h1 : (fldT k a b j).length ≤ j * 22 := catTo_len (fun i _ => by
    have h1 := itoa_l ha
    have h2 := itoa_l hb
    simp only [List.length_append, List.length_cons, List.length_nil]
    split <;> omega)
  omega
theorem formT_is (k : Int) : formT k = [] ∨ formT k = [97] ∨ formT k = [98] ∨ formT k = [97, 98] := by
  unfold formT
  cases giveA k <;> cases giveB k <;> simp
theorem four_cells {w : World} {H : Nat} {a b c d : Value} {t : TypeId} (k : w.heap[H]? = some (.cells #[a, b, c, d] t (0, 0))) : w.cell? ⟨H, 0, none⟩ = some a ∧ w.cell? ⟨H, 1, none⟩ = some b ∧ w.cell? ⟨H, 2, none⟩ = some c ∧ w.cell? ⟨H, 3, none⟩ = some d := by
  simp [World.cell?, k]

set_option maxRecDepth 100000 in
set_option maxHeartbeats 6400000 in
theorem stmLines_any (key : List UInt8) (hkey : key.length ≤ 10) (ao : Option Addr) (n c : Nat) (ss : List StmD) (w : World) (hok : StmsOK ss) (hs : StmsOf w ao n ss) :
    Calls Tryz.prog 14 #[.string ⟨key.toArray⟩, .slice ao n c] w fun e w' => e = .returned (tx (stmsT key ss n)) ∧ Below w.heap.size w w' := by
  have HL := hid hs.1
  have hn : n ≤ 50 := by rw [← hs.1]; exact hok.1
  have HO := hid hok
  clear hok
  obtain ⟨y0, hy0, K0⟩ := catx key [32] (by simp; omega)
  have HK := hid hkey
  clear hkey
  go_enter Tryz.func14, Tryz.ntmps14
  go_wp2
  go_loopw [5, 13] (fun o i wr => ∃ (k : Nat), k ≤ n ∧ i = .int .i64 k ∧ o = tx (stmsT key ss k) ∧ Below w.heap.size w wr) (fun _ i _ => n - (intOf i).toNat)
  case atStart => exact ⟨0, Nat.zero_le _, rfl, rfl, Below.refl _ _⟩
  case round =>
    obtain ⟨k, hk, rfl, rfl, hb⟩ := hrel
    have HB := hid hb
    by_cases hlt : k < n
    · obtain ⟨b, off, rfl, hbl, hc⟩ := hs.2 (by omega)
      obtain ⟨s, es⟩ : ∃ s, s = ss.getD k stm0 := ⟨_, rfl⟩
      have hk4 := hc k hlt
      rw [← es] at hk4
      obtain ⟨c0, c1, c2, co, cn, cc, c3, hcn, hit⟩ := hk4
      have c0 := (hb.cell (p := ⟨b, off + k * 4, none⟩) hbl).trans c0
      have c1 := (hb.cell (p := ⟨b, off + k * 4 + 1, none⟩) hbl).trans c1
      have c2 := (hb.cell (p := ⟨b, off + k * 4 + 2, none⟩) hbl).trans c2
      have c3 := (hb.cell (p := ⟨b, off + k * 4 + 3, none⟩) hbl).trans c3
      have IT := hid hit
      have hsk := HO.out.2 k (by rw [HL.out]; exact hlt)
      rw [← es] at hsk
      have hT := stmsT_l HK.out HO.out (n := k) (by rw [HL.out]; exact hk)
      have ES : Hid (stmsT key ss (k + 1) = stmsT key ss k ++ (key ++ [32] ++ stmT s ++ [10])) := hid (by rw [es]; rfl)
      have hbl' : b < wr.heap.size := Nat.lt_of_lt_of_le hbl hb.size
      obtain ⟨t, ht⟩ : ∃ t, t = stmsT key ss k := ⟨_, rfl⟩
      rw [← ht] at hT ES ⊢
      obtain ⟨kd, sa, sb, sc⟩ := s
      obtain ⟨lo, hi, ha, hbb, hcd⟩ := hsk
      dsimp only at c0 c1 c2 lo hi ha hbb hcd IT
      have hco := codeT_l hcd (Nat.le_refl _)
      have hcl : sc.length = cn := IT.out.1
      obtain ⟨m, hm⟩ : ∃ m : Nat, kd = (m : Int) + 1 := ⟨(kd - 1).toNat, by omega⟩
      have hm9 : m < 9 := by omega
      have hmi0 : (0 : Int) ≤ (m : Int) := by omega
      have hmi : (m : Int) < 9 := by omega
      have wr1 : IntKind.i64.wrap ((m : Int) + 1 - 1) = m := by rw [IntWalk.i64_in _ (by omega)]; omega
      have wr2 : IntKind.i64.wrap (m : Int) = m := IntWalk.i64_in _ (by omega)
      have hnl := stmName_l kd
      have CF := hid (fun W => form_any kd W lo hi)
      obtain ⟨nm, hnm⟩ : ∃ nm, nm = stmName kd := ⟨_, rfl⟩
      have BX := hid (below1 wr (.cells #[.int .i64 kd, .int .i64 sa, .int .i64 sb, .slice co cn cc] 83))
      have XX := hid (heap_alloc_new wr (.cells #[.int .i64 kd, .int .i64 sa, .int .i64 sb, .slice co cn cc] 83))
      obtain ⟨W, hWW⟩ : ∃ W, W = wr.alloc (.cells #[.int .i64 kd, .int .i64 sa, .int .i64 sb, .slice co cn cc] 83) := ⟨_, rfl⟩
      obtain ⟨HX, hHX⟩ : ∃ H, H = wr.heap.size := ⟨_, rfl⟩
      have XW : Hid (W.heap[HX]? = some (.cells #[.int .i64 kd, .int .i64 sa, .int .i64 sb, .slice co cn cc] 83 (0, 0))) := hid (by rw [hWW, hHX]; exact XX.out)
      have BW : Hid (Below w.heap.size w W) := hid (by rw [hWW]; exact HB.out.trans (BX.out.mono HB.out.size))
      have C5 := hid (stmNames_at m hm9 W.drew)
      rw [← hm, ← hnm] at C5
      have EN : Hid (stmName kd = nm) := hid hnm.symm
      rw [← hnm] at hnl
      rw [← hm] at wr1
      obtain ⟨y1, hy1, K1⟩ := catx y0 nm (by have := HK.out; rw [hy0.out]; simp; omega)
      obtain ⟨y2, hy2, K2⟩ := catx t y1 (by have := HK.out; rw [hy1.out, hy0.out]; simp; omega)
      have hy2l : y2.length ≤ 250020 := by have := HK.out; rw [hy2.out, hy1.out, hy0.out]; simp; omega
      have HD : Hid (HX < W.drew.heap.size) := hid (lt_of_block XW.out)
      obtain ⟨d0, d1, d2, d3⟩ := four_cells XW.out
      have SW : W.drew.cell? ⟨HX, 0, none⟩ = some (.int .i64 kd) := d0
      clear hc hs hb es ht hit hnm BX XX hm
      go_upto_region 5 with fail
      rw [← hHX, ← hWW]
      clear hWW hHX
      go_cut [5] from 17 to 27 (fun o wx => o = tx y2 ∧ Below W.heap.size W wx)
      case first =>
        clear CF hcd IT hco
        go_region_with (first | (go_at_call 25; have q := C5.out; with_reducible refine q.mono ?_; clear q; rintro e w1 ⟨g, rfl, hg, hb1⟩; have sx : w1.cell? ⟨HX, 0, none⟩ = some (.int .i64 kd) := ((hb1.cell (p := ⟨HX, 0, none⟩) HD.out).trans SW); have B1 := hid hb1; clear hb1))
        all_goals
          go_wp2_with fail
          go_meet
          exact ⟨rfl, ((Below.refl _ _).drew).trans B1.out⟩
      case rest =>
        obtain ⟨rfl, hbc⟩ := hcut
        have XC := hid (block_below XW.out hbc)
        have BC : Hid (Below w.heap.size w wc) := hid (BW.out.trans (hbc.mono BW.out.size))
        clear d0 d1 d2 d3 SW HD hbc
        obtain ⟨d0, d1, d2, d3⟩ := four_cells XC.out
        have hxl := lt_of_block XC.out
        obtain ⟨f, hf⟩ : ∃ f, f = formT kd := ⟨_, rfl⟩
        rw [← hf] at CF
        have hff := formT_is kd
        rw [← hf] at hff
        have EF : Hid (fldT kd sa sb f.length = fieldT (giveA kd) sa ++ fieldT (giveB kd) sb) := hid (by rw [hf]; exact fldT_all kd sa sb)
        have FD : Hid (∀ j, fldT kd sa sb (j + 1) = fldT kd sa sb j ++ ([32] ++ Lib.itoa (if f.getD j 0 = 97 then sa else sb))) := hid (fun j => by rw [hf]; rfl)
        have FL : Hid (∀ j, j ≤ 2 → (fldT kd sa sb j).length ≤ 44) := hid (fun j hj => fldT_l ha hbb hj)
        obtain ⟨y3, hy3⟩ : ∃ y, Hid (y = y2 ++ fldT kd sa sb f.length) := ⟨_, hid rfl⟩
        have hfl : f.length ≤ 2 := by rw [hf]; exact formT_two kd
        have hy3l : y3.length ≤ 250100 := by have := FL.out f.length hfl; rw [hy3.out]; simp; omega
        have D1 := hid (fun W => l5Dec_any sa W ha.1 ha.2)
        have D2 := hid (fun W => l5Dec_any sb W hbb.1 hbb.2)
        have LA := hid (itoa_l ha)
        have LB := hid (itoa_l hbb)
        have CT := hid (fun W (h : ItemsOf W co cn sc) => codeText_any co cn cc sc W hcd h)
        clear hf
        go_upto_region 7 with (go_at_call 26; refine (CF.out _).mono ?_; rintro e w1 ⟨rfl, rfl⟩)
        clear K0 K1 K2
        go_cut [10] from 34 to 37 (fun i wx => i = .int .i64 0 ∧ wx = w1)
        case first =>
          go_wp2_with fail
          go_meet
          exact ⟨rfl, rfl⟩
        case rest =>
          obtain ⟨rfl, rfl⟩ := hcut
          obtain ⟨V, hV⟩ : ∃ V, V = wc := ⟨_, rfl⟩
          subst hV
          apply_assumption
          go_cut [5, 10] from 34 to 55 (fun o i wx => o = tx y3 ∧ Below V.heap.size V wx)
          case first =>
            clear CT hcd hco hcl
            go_wp2_with fail
            go_loopw [5, 10] (fun o i wx => ∃ j : Nat, j ≤ f.length ∧ i = .int .i64 j ∧ o = tx (y2 ++ fldT kd sa sb j) ∧ Below V.heap.size V wx) (fun _ i _ => f.length - (intOf i).toNat)
            case atStart => exact ⟨0, Nat.zero_le _, rfl, by simp [fldT, catTo], Below.refl _ _⟩
            case round =>
              obtain ⟨j, hj, rfl, rfl, hbj⟩ := hrel
              have BJ := hid hbj
              have XJ := hid (block_below XC.out hbj)
              clear d0 d1 d2 d3 hxl hbj
              obtain ⟨d0, d1, d2, d3⟩ := four_cells XJ.out
              have hxl := lt_of_block XJ.out
              have hyl := FL.out j (by omega)
              obtain ⟨u, hu⟩ : ∃ u, Hid (u = y2 ++ fldT kd sa sb j) := ⟨_, hid rfl⟩
              have hul : u.length ≤ 250100 := by rw [hu.out]; simp; omega
              have EU := hid (FD.out j)
              rw [← hu.out]
              obtain ⟨x1, hx1, X1⟩ := catx [32] (Lib.itoa sa) (by have := LA.out; simp; omega)
              obtain ⟨x2, hx2, X2⟩ := catx u x1 (by have := LA.out; rw [hx1.out]; simp; omega)
              obtain ⟨z1, hz1, Z1⟩ := catx [32] (Lib.itoa sb) (by have := LB.out; simp; omega)
              obtain ⟨z2, hz2, Z2⟩ := catx u z1 (by have := LB.out; rw [hz1.out]; simp; omega)
              have hj2 : j = 0 ∨ j = 1 ∨ j = 2 := by omega
              clear hyl hul
              rcases hff with rfl | rfl | rfl | rfl <;> rcases hj2 with rfl | rfl | rfl
              all_goals first
                | (exfalso; simp at hj; done)
                | (go_wp2_with (first | (go_at_call 12; with_reducible refine (D1.out _).mono ?_; rintro e w2 ⟨rfl, hb2⟩; have B2 := hid hb2; clear hb2) | (go_at_call 12; with_reducible refine (D2.out _).mono ?_; rintro e w2 ⟨rfl, hb2⟩; have B2 := hid hb2; clear hb2))
                   first
                     | (go_meet; exact ⟨by rw [hu.out, hy3.out]; rfl, BJ.out⟩)
                     | (go_roundw
                        case rel => first
                          | exact ⟨1, by simp, by go_num, by have e := EU.out; rw [hx2.out, hx1.out, hu.out]; simp at e; simp [e], BJ.out.trans (B2.out.mono BJ.out.size)⟩
                          | exact ⟨1, by simp, by go_num, by have e := EU.out; rw [hz2.out, hz1.out, hu.out]; simp at e; simp [e], BJ.out.trans (B2.out.mono BJ.out.size)⟩
                          | exact ⟨2, by simp, by go_num, by have e := EU.out; rw [hz2.out, hz1.out, hu.out]; simp at e; simp [e], BJ.out.trans (B2.out.mono BJ.out.size)⟩
                          | exact ⟨2, by simp, by go_num, by have e := EU.out; rw [hx2.out, hx1.out, hu.out]; simp at e; simp [e], BJ.out.trans (B2.out.mono BJ.out.size)⟩
                        case measure => simp [intOf]))
          case rest =>
            obtain ⟨rfl, hbx⟩ := hcut
            have XD := hid (block_below XC.out hbx)
            have BD : Hid (Below w.heap.size w wc) := hid (BC.out.trans (hbx.mono BC.out.size))
            clear d0 d1 d2 d3 hxl hbx
            obtain ⟨d0, d1, d2, d3⟩ := four_cells XD.out
            have hxl := lt_of_block XD.out
            have CC := hid (CT.out wc (IT.out.below BD.out))
            rw [hcl] at hco
            obtain ⟨q1, hq1, Q1⟩ := catx (codeT sc cn) [10] (by simp; omega)
            obtain ⟨q2, hq2, Q2⟩ := catx y3 q1 (by rw [hq1.out]; simp; omega)
            have EQ : Hid (stmsT key ss (k + 1) = q2) := hid (by
              rw [ES.out, hq2.out, hq1.out, hy3.out, EF.out, hy2.out, hy1.out, hy0.out, ← EN.out]
              simp [stmT, hcl])
            clear CT IT hcd hco hfl hy3l hy2l hff
            go_wp2_with (go_at_call 15; with_reducible refine CC.out.mono ?_; rintro e w2 ⟨rfl, hb2⟩; have B2 := hid hb2; clear hb2)
            go_roundw
            case rel => exact ⟨k + 1, by omega, by go_num, by rw [EQ.out], BD.out.trans (B2.out.mono BD.out.size)⟩
            case measure => simp [intOf]; omega
    · have e : k = n := by omega
      subst e
      clear hs hb
      go_wp2
      go_ret
      exact ⟨rfl, HB.out⟩
end Go.Proofs.YtkkiiffhfjkoaaaGreatDoor
