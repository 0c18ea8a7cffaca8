import Derived.Test.YtbcjlpjohknljaaGreatDoorLg
import Derived.Test.YtbcjlpjohknljaaGreatDoorLa
namespace Go.Proofs.YtbcjlpjohknljaaGreatDoor
open Go.RowKit Go.Sort
set_option linter.unusedVariables false
attribute [local go_sem ↓] Go.wp_at_zero Go.wp_at_succ

/-- What ParseSystem answers. -/
def SyAns (B : Nat) (p : SyD × Int) (w : World) (e : Ending) (w' : World) : Prop :=
  ∃ G : SyG, G.dat = p.1 ∧ e = .returned (.tuple #[G.val, .int .i64 p.2]) ∧ Flat w' B G.rows ∧ Below B w w'
/-- A row stays when a block below the bound is turned. -/
theorem Flat.setLow {w : World} {B b : Nat} {R : List Rw} (h : Flat w B R) (hb : b < B) (o : Nat) (u : Value) : Flat (w.setCell ⟨b, o, none⟩ u) B R :=
  h.keep (fun r hr i hl hi => Below.heap_setCell _ _ _ _ (fun (e : i = b) => by have := ((h.own r hr).lt i hi).1; omega))
theorem sy_box {w : World} {H : Nat} {a b c : Value} (k : w.heap[H]? = some (.cells #[a, b, c] 25 (0, 0))) (v0 v1 v2 : Value) : ((((w.setCell ⟨H, 0, none⟩ v0).setCell ⟨H, 1, none⟩ v1).setCell ⟨H, 2, none⟩ v2).cell? ⟨H, 0, none⟩ = some v0 ∧ (((w.setCell ⟨H, 0, none⟩ v0).setCell ⟨H, 1, none⟩ v1).setCell ⟨H, 2, none⟩ v2).cell? ⟨H, 1, none⟩ = some v1 ∧ (((w.setCell ⟨H, 0, none⟩ v0).setCell ⟨H, 1, none⟩ v1).setCell ⟨H, 2, none⟩ v2).cell? ⟨H, 2, none⟩ = some v2) :=
  (three_cc (tri_set k v0 v1 v2)).1
/-- The loop's state. -/
structure LpS (w wr : World) (B P2 P4 la ln lc : Nat) (ls : List (List UInt8)) (G : SyG) : Prop where
  flat : Flat wr B G.rows
  b4 : wr.heap[P4]? = some (.cells #[.int .i64 G.sg, G.ob.v, G.tm.v] 25 (0, 0))
  b2 : wr.heap[P2]? = some (.cells #[.int .i64 0, nilV, nilV] 25 (0, 0))
  tx : TxRow wr w.heap.size (.slice (some ⟨la, 0, none⟩) ln lc) ls
  lo : Below w.heap.size w wr
  hB : B ≤ wr.heap.size
  h2 : w.heap.size ≤ P2
  h24 : P2 < P4
  h4 : P4 < B
  hl : la < B
  ht : wr.heap.size > 0
/-- Behind a line: what lies below the bound is as it was. -/
theorem LpS.next {w wr w' : World} {B P2 P4 la ln lc : Nat} {ls : List (List UInt8)} {G G' : SyG} (h : LpS w wr B P2 P4 la ln lc ls G) (hb : Below B wr w') (hf : Flat w' B G'.rows) : wr.heap.size ≤ w'.heap.size ∧ w'.heap[P4]? = some (.cells #[.int .i64 G.sg, G.ob.v, G.tm.v] 25 (0, 0)) ∧ w'.heap[P2]? = some (.cells #[.int .i64 0, nilV, nilV] 25 (0, 0)) ∧ TxRow w' w.heap.size (.slice (some ⟨la, 0, none⟩) ln lc) ls ∧ Below w.heap.size w w' := by
  have h4 := h.h4; have h24 := h.h24; have h2 := h.h2
  refine ⟨hb.size, (hb.block P4 h4).trans h.b4, (hb.block P2 (by omega)).trans h.b2, row_same h.tx (fun b _ e => ?_), h.lo.trans (hb.mono (by omega))⟩
  simp [Value.ownBlock] at e
  exact hb.block b (by have := h.hl; omega)
theorem LpS.put {w wr w' : World} {B P2 P4 la ln lc : Nat} {ls : List (List UInt8)} {G G' : SyG} (h : LpS w wr B P2 P4 la ln lc ls G) (hb : Below B wr w') (hf : Flat w' B G'.rows) : LpS w (((w'.setCell ⟨P4, 0, none⟩ (.int .i64 G'.sg)).setCell ⟨P4, 1, none⟩ G'.ob.v).setCell ⟨P4, 2, none⟩ G'.tm.v) B P2 P4 la ln lc ls G' := by
  obtain ⟨hs, k4, k2, kt, kb⟩ := h.next hb hf
  have h4 := h.h4; have h24 := h.h24; have h2 := h.h2
  have hla : la ≠ P4 := by
    intro e
    have := own_far2 kt (show 25 ≠ 9 by decide) k4
    rw [← e] at this
    exact this rfl
  refine ⟨((hf.setLow h4 _ _).setLow h4 _ _).setLow h4 _ _, tri_set k4 _ _ _, ?_, ?_, ((kb.setCell (p := ⟨P4, 0, none⟩) (by simp only; omega) _).setCell (p := ⟨P4, 1, none⟩) (by simp only; omega) _).setCell (p := ⟨P4, 2, none⟩) (by simp only; omega) _, by simp; have := h.hB; omega, h2, h24, h4, h.hl, by simp; have := h.ht; omega⟩
  · rw [Below.heap_setCell _ _ _ _ (by simp only; omega), Below.heap_setCell _ _ _ _ (by simp only; omega), Below.heap_setCell _ _ _ _ (by simp only; omega)]
    exact k2
  · refine row_same kt (fun b _ e => ?_)
    simp [Value.ownBlock] at e
    subst e
    rw [Below.heap_setCell _ _ _ _ (by simp only; omega), Below.heap_setCell _ _ _ _ (by simp only; omega), Below.heap_setCell _ _ _ _ (by simp only; omega)]
end Go.Proofs.YtbcjlpjohknljaaGreatDoor
namespace Go.Proofs.YtbcjlpjohknljaaGreatDoor
open Go.RowKit Go.Sort
set_option linter.unusedVariables false
attribute [local go_sem ↓] Go.wp_at_zero Go.wp_at_succ

/-- A line that is right, with what the caller holds beside. -/
theorem line_good (G : SyG) (R : List Rw) (B b n c : Nat) (fs : List (List UInt8)) (bg : Bool) (d : SyD) (w : World) (h : LnC G R B b 0 n c fs w) (hd : lineW G.dat (fs.getD 0 []) fs.tail bg = some d) : Calls Tryz.prog 10 #[.agg #[.int .i64 G.sg, G.ob.v, G.tm.v], .slice (some ⟨b, 0, none⟩) (n + 1) c, .bool bg] w fun e w' => ∃ (G' : SyG) (o1 o2 : Option Addr) (n1 n2 k1 k2 : Nat), G'.dat = d ∧ e = .returned (.tuple #[.agg #[.int .i64 G'.sg, .slice o1 n1 k1, .slice o2 n2 k2], .bool true]) ∧ (G'.ob.v = .slice o1 n1 k1 ∧ G'.tm.v = .slice o2 n2 k2) ∧ Flat w' B (G'.rows ++ R) ∧ Below B w w' := by
  refine (l5Line_any G R B b 0 n c fs bg w h).mono ?_
  rintro e w' ⟨h1, ⟨G', h2, h3, h4⟩ | ⟨h2, _⟩⟩
  · rw [hd] at h2
    injection h2 with h2
    obtain ⟨eo, ec, xo, xc, hev, hxv⟩ := SyG.form h4
    rw [SyG.val, hev, hxv] at h3
    exact ⟨G', _, _, _, _, _, _, h2.symm, h3, ⟨hev, hxv⟩, h4, h1⟩
  · rw [hd] at h2; cases h2
theorem line_wrong (G : SyG) (R : List Rw) (B b n c : Nat) (fs : List (List UInt8)) (bg : Bool) (w : World) (h : LnC G R B b 0 n c fs w) (hd : lineW G.dat (fs.getD 0 []) fs.tail bg = none) : Calls Tryz.prog 10 #[.agg #[.int .i64 G.sg, G.ob.v, G.tm.v], .slice (some ⟨b, 0, none⟩) (n + 1) c, .bool bg] w fun e w' => ∃ (z : Int) (o1 o2 : Option Addr) (n1 n2 k1 k2 : Nat), e = .returned (.tuple #[.agg #[.int .i64 z, .slice o1 n1 k1, .slice o2 n2 k2], .bool false]) ∧ Flat w' B R ∧ Below B w w' := by
  refine (l5Line_any G R B b 0 n c fs bg w h).mono ?_
  rintro e w' ⟨h1, ⟨G', h2, h3, h4⟩ | ⟨_, z, o1, o2, n1, n2, k1, k2, h2, h3⟩⟩
  · rw [hd] at h2; cases h2
  · exact ⟨z, o1, o2, n1, n2, k1, k2, h2, h3, h1⟩

theorem close_new {w3 : World} {B : Nat} {G' : SyG} {o1 o2 : Option Addr} {n1 n2 k1 k2 : Nat} (hB : B ≤ w3.heap.size) (hV : G'.ob.v = .slice o1 n1 k1 ∧ G'.tm.v = .slice o2 n2 k2) (hF : Flat w3 B (G'.rows ++ [])) : Flat (w3.alloc (.cells #[.int .i64 G'.sg, .slice o1 n1 k1, .slice o2 n2 k2] 25)) B (sysB w3.heap.size (.int .i64 G'.sg) G'.ob.v G'.tm.v :: G'.rows) := by
  rw [List.append_nil] at hF
  have := hF.box hB 25 [.int .i64 G'.sg, .slice o1 n1 k1, .slice o2 n2 k2]
  rw [hV.1, hV.2]
  exact this
theorem close_old {w3 : World} {B H : Nat} {G' : SyG} {o1 o2 : Option Addr} {n1 n2 k1 k2 : Nat} (hV : G'.ob.v = .slice o1 n1 k1 ∧ G'.tm.v = .slice o2 n2 k2) (hF : Flat w3 B (G'.rows ++ [sysB H (.int .i64 0) nilV nilV])) : Flat (((w3.setCell ⟨H, 0, none⟩ (.int .i64 G'.sg)).setCell ⟨H, 1, none⟩ (.slice o1 n1 k1)).setCell ⟨H, 2, none⟩ (.slice o2 n2 k2)) B (sysB H (.int .i64 G'.sg) G'.ob.v G'.tm.v :: G'.rows) := by
  have h1 : Flat w3 B (sysB H (.int .i64 0) nilV nilV :: G'.rows) := hF.perm (List.perm_append_singleton _ _)
  have := ((h1.setBox 0 (.int .i64 G'.sg)).setBox 1 (.slice o1 n1 k1)).setBox 2 (.slice o2 n2 k2)
  rw [hV.1, hV.2]
  exact this

set_option maxRecDepth 100000 in
set_option maxHeartbeats 6400000 in
/-- A system read (the model's). -/
theorem specParse_any (s : ByteArray) (w : World) : Calls Tryz.prog 4 #[.string s] w fun e w' => SyAns w.heap.size (parW (bl s)) w e w' := by
  by_cases hbig : 30000 < s.size
  · have hbig' : (30000 : Int) < (s.size : Int) := by omega
    have E : Hid (parW (bl s) = (sy0, -1)) := hid (by unfold parW; rw [if_pos (by rw [bl_len]; exact hbig)])
    rw [E.out]
    clear hbig
    have K2 := hid (three_cc (heap_alloc_new w (.cells #[.int .i64 0, nilV, nilV] 25))).1
    go_enter Tryz.func4, Tryz.ntmps4
    go_wp2
    obtain ⟨u0, u1, u2⟩ := K2.out
    refine bodyPost_ret (v := .tuple #[.agg #[.int .i64 0, nilV, nilV], .int .i64 (-1)]) (by simp [results, Tryz.results4, go_sem, u0, u1, u2]) rfl ⟨syG0, rfl, rfl, syG0_flat _ _, ?_⟩
    exact below1 w _
  · have hbig' : ¬ (30000 : Int) < (s.size : Int) := by omega
    have E : Hid (parW (bl s) = sysW (cut 10 (bl s)) 0 sy0 false) := hid (by unfold parW; rw [if_neg (by rw [bl_len]; exact hbig)])
    rw [E.out]
    have SP := hid (fun W => l5Split_any s 10 W (by omega))
    have LL : Hid ((cut 10 (bl s)).length ≤ 30001) := hid (by have := cut_len 10 (bl s); rw [bl_len] at this; omega)
    have LE : Hid (∀ f ∈ cut 10 (bl s), f.length ≤ 30000) := hid (fun f hf => by have := cut_each 10 (bl s) f hf; rw [bl_len] at this; omega)
    have LN := hid (cut_ne 10 (bl s))
    obtain ⟨ls, hls⟩ : ∃ l, l = cut 10 (bl s) := ⟨_, rfl⟩
    rw [← hls] at SP LL LE LN ⊢
    have SP' : Hid (∀ W, Calls Tryz.prog 9 #[.string s, .int .u8 10] W fun e w' => ∃ v, e = .returned v ∧ TxRow w' W.heap.size v ls ∧ Below W.heap.size W w') := hid SP.out
    clear hls E SP hbig
    obtain ⟨V, hV⟩ : ∃ V, V = (w.alloc (.cells #[.int .i64 0, nilV, nilV] 25)).alloc (.cells #[.int .i64 0, nilV, nilV] 25) := ⟨_, rfl⟩
    have V4 : Hid (V.heap[w.heap.size + 1]? = some (.cells #[.int .i64 0, nilV, nilV] 25 (0, 0))) := hid (by
      rw [hV]; simpa using heap_alloc_new (w.alloc (.cells #[.int .i64 0, nilV, nilV] 25)) (.cells #[.int .i64 0, nilV, nilV] 25))
    have V2 : Hid (V.heap[w.heap.size]? = some (.cells #[.int .i64 0, nilV, nilV] 25 (0, 0))) := hid (by
      rw [hV]; exact block_below (heap_alloc_new w _) (below1 _ _))
    have BV : Hid (Below w.heap.size w V) := hid (by rw [hV]; exact below2 w _ _)
    have SV : Hid (V.heap.size = w.heap.size + 2) := hid (by rw [hV]; simp)
    have HV := hid hV
    clear hV
    go_enter Tryz.func4, Tryz.ntmps4
    go_upto_region 5 with fail
    rw [← HV.out]
    clear HV
    go_wp2_with (go_at_call 9; with_reducible refine (SP'.out _).mono ?_; rintro e w1 ⟨lv, rfl, hl1, hb1⟩; obtain ⟨la, m0, lc, rfl, hm0, hlc, hla, _⟩ := TxRow.form hl1 LN.out; have T1 := hid hl1; have B1 := hid hb1; have HLN := hid hm0; clear hl1 hb1 hm0)
    obtain ⟨ln, hln⟩ : ∃ n, n = m0 + 1 := ⟨_, rfl⟩
    have hln2 : ln ≤ 30001 := by have := LL.out; have := HLN.out; omega
    have HL2 : Hid (ls.length = ln) := hid (by rw [hln]; exact HLN.out)
    have hlnI : (m0 : Int) + 1 = (ln : Int) := by omega
    rw [← hln, hlnI]
    clear hlnI
    have L0 : Hid (LpS w w1 w1.heap.size w.heap.size (w.heap.size + 1) la ln lc ls syG0) := hid (by
      have hs := B1.out.size
      have hs2 := SV.out
      refine ⟨syG0_flat _ _, block_below V4.out B1.out, block_below V2.out B1.out, ?_, BV.out.trans (B1.out.mono BV.out.size), Nat.le_refl _, Nat.le_refl _, Nat.lt_succ_self _, by omega, (T1.out.lt la rfl).2, by omega⟩
      rw [hln]
      exact row_base T1.out BV.out.size)
    obtain ⟨B, hB⟩ : ∃ B, B = w1.heap.size := ⟨_, rfl⟩
    obtain ⟨P4, hP4⟩ : ∃ B, B = w.heap.size + 1 := ⟨_, rfl⟩
    obtain ⟨P2, hP2⟩ : ∃ B, B = w.heap.size := ⟨_, rfl⟩
    rw [← hB, ← hP4] at L0
    rw [← hP4]
    have L1 : Hid (LpS w w1 B P2 P4 la ln lc ls syG0) := hid (by rw [hP2]; exact L0.out)
    rw [← hP2]
    have HP2 := hid hP2
    clear hB hP4 V4 V2 BV SV T1 B1 SP' L0 HLN hln hlc hla hP2
    go_loopw [5, 18] (fun bgv i wr => ∃ (k : Nat) (G : SyG) (bg : Bool), k ≤ ln ∧ i = .int .i64 k ∧ bgv = .bool bg ∧ Hid (sysW ls 0 sy0 false = sysW (ls.drop k) k G.dat bg) ∧ Hid (SmD G.dat k) ∧ Hid (LpS w wr B P2 P4 la ln lc ls G)) (fun _ i _ => ln - (intOf i).toNat)
    case atStart => exact ⟨0, syG0, false, Nat.zero_le _, rfl, rfl, hid (by simp [show syG0.dat = sy0 from rfl]), hid (sm_zero _), L1⟩
    case round =>
      obtain ⟨k, G, bg, hk, rfl, rfl, hS, hA, hL⟩ := hrel
      obtain ⟨eo, ec, xo, xc, hev, hxv⟩ := SyG.form (R := []) (by rw [List.append_nil]; exact hL.out.flat)
      obtain ⟨⟨a0, a1, a2⟩, f0, f1, f2, al⟩ := three_cc hL.out.b4
      obtain ⟨⟨z0, z1, z2⟩, y0, y1, y2, zl⟩ := three_cc hL.out.b2
      rw [hev] at a1
      rw [hxv] at a2
      by_cases hlt : k < ln
      · have hlt' : (k : Int) < (ln : Int) := by omega
        obtain ⟨b, off, eb, hbl, hc⟩ := (TxRow.strs hL.out.tx).1.2 (by omega)
        simp only [Option.some.injEq, Addr.mk.injEq, and_true] at eb
        obtain ⟨rfl, rfl⟩ := eb
        have c1 := hc k hlt
        rw [Nat.zero_add] at c1
        have hkf : k < ls.length := by rw [HL2.out]; exact hlt
        have hxl : (ls.getD k []).length ≤ 30000 := LE.out _ (by simp [List.getD_eq_getElem?_getD, hkf])
        have SK := hid (fun h => sysW_skip (s := G.dat) (b := bg) hkf h)
        have SI := hid (fun d h1 h2 => sysW_line (s := G.dat) (b := bg) (s' := d) hkf h1 h2)
        have SW := hid (fun h1 h2 => sysW_wrong (s := G.dat) (b := bg) hkf h1 h2)
        obtain ⟨x, hx⟩ : ∃ x, x = ls.getD k [] := ⟨_, rfl⟩
        rw [← hx] at c1 hxl SK SI SW
        obtain ⟨t, ht⟩ : ∃ t : ByteArray, t = ⟨x.toArray⟩ := ⟨_, rfl⟩
        have c1' : wr.cell? ⟨la, k, none⟩ = some (.string t) := by rw [ht]; exact c1
        have hbt : x = bl t := ba_bl.1 ht.symm
        have hts : t.size ≤ 30000 := by rw [← bl_len, ← hbt]; exact hxl
        subst hbt
        clear c1 hc hx ht hxl hkf
        by_cases he : t.size = 0
        · have hte : t = ⟨#[]⟩ := by apply ByteArray.ext; exact Array.eq_empty_of_size_eq_zero he
          have Q := hid (SK.out (by rw [hte]; rfl))
          subst hte
          clear SK SI SW
          go_wp2
          go_roundw
          case rel => exact ⟨k + 1, G, bg, hlt, by go_num, rfl, hid (by rw [hS.out, Q.out]), hid (hA.out.mono (Nat.le_succ _)), hL⟩
          case measure => simp [intOf]; omega
        · have hp : 0 < t.size := by omega
          have hte : ¬ t = ⟨#[]⟩ := fun e => he (by rw [e]; rfl)
          have hte0 : ¬ t.toList = [] := by rw [ByteArray.toList_eq]; intro e; exact he (by rw [← bl_len]; show (t.data.toList).length = 0; rw [e]; rfl)
          have hte' : t.toList.isEmpty = false := by cases hq : t.toList with | nil => exact absurd hq hte0 | cons a r => rfl
          have hbg := bl_get t 0 hp
          by_cases h35 : t[0] = 35
          · have h35' : (t[0].toNat : Int) = 35 := by rw [h35]; rfl
            have Q := hid (SK.out ((skip_head _).2 (.inr (by rw [hbg]; exact h35))))
            clear SK SI SW hte he h35 hbg
            go_wp2
            go_roundw
            case rel => exact ⟨k + 1, G, bg, hlt, by go_num, rfl, hid (by rw [hS.out, Q.out]), hid (hA.out.mono (Nat.le_succ _)), hL⟩
            case measure => simp [intOf]; omega
          · have h35' : ((t[0].toNat : Int) == 35) = false := by simp; intro h; exact h35 (UInt8.toNat_inj.1 (by have : (35 : UInt8).toNat = 35 := rfl; omega))
            have SF : Hid (skipB (bl t) = false) := hid (by
              cases hq : skipB (bl t) with
              | false => rfl
              | true =>
                rcases (skip_head _).1 hq with h | h
                · exact absurd (by rw [← bl_len, h]; rfl) he
                · rw [hbg] at h; exact absurd h h35)
            have SP2 : Hid (∀ W, Calls Tryz.prog 9 #[.string t, .int .u8 32] W fun e w' => ∃ v, e = .returned v ∧ TxRow w' W.heap.size v (cut 32 (bl t)) ∧ Below W.heap.size W w') := hid (fun W => l5Split_any t 32 W (by omega))
            have FL : Hid ((cut 32 (bl t)).length ≤ 30001) := hid (by have := cut_len 32 (bl t); rw [bl_len] at this; omega)
            have FE : Hid (∀ f ∈ cut 32 (bl t), f.length ≤ 1048576) := hid (fun f hf => by have := cut_each 32 (bl t) f hf; rw [bl_len] at this; omega)
            have FN := hid (cut_ne 32 (bl t))
            have SI' := hid (fun d h2 => SI.out d SF.out h2)
            have SW' := hid (fun h2 => SW.out SF.out h2)
            obtain ⟨fs, hfs⟩ : ∃ fs, fs = cut 32 (bl t) := ⟨_, rfl⟩
            rw [← hfs] at SP2 FL FE FN SI' SW'
            clear SK SI SW hte he h35 hbg hfs SF hte0
            have LC : Hid (∀ (W : World) (R : List Rw) (g n c : Nat), B ≤ W.heap.size → Flat W B (G.rows ++ R) → TxRow W wr.heap.size (.slice (some ⟨g, 0, none⟩) (n + 1) c) fs → fs.length = n + 1 → n + 1 ≤ c → LnC G R B g 0 n c fs W) := hid (fun W R g n c h1 h2 h3 h4 h5 => ⟨h1, h2, (TxRow.strs h3).1, by have := FL.out; omega, h5, FE.out, hA.out.mono (by omega), own_tag h3 rfl⟩)
            have KC : Hid (∀ Y, Below B wr Y → Y.cell? ⟨P4, 0, none⟩ = some (.int .i64 G.sg) ∧ Y.cell? ⟨P4, 1, none⟩ = some (.slice eo G.ob.xs.length ec) ∧ Y.cell? ⟨P4, 2, none⟩ = some (.slice xo G.tm.xs.length xc)) := hid (fun Y hY => ⟨(hY.cell (p := ⟨P4, 0, none⟩) hL.out.h4).trans a0, (hY.cell (p := ⟨P4, 1, none⟩) hL.out.h4).trans a1, (hY.cell (p := ⟨P4, 2, none⟩) hL.out.h4).trans a2⟩)
            have K0 := hid (KC.out (wr.alloc (.cells #[.int .i64 0, nilV, nilV] 25)) ((Below.refl B wr).alloc hL.out.hB _))
            go_upto_region 9 with fail
            cases hd : lineW G.dat (fs.getD 0 []) fs.tail bg with
            | none =>
              have LG : Hid (∀ (W : World) (R : List Rw) (g n c : Nat), LnC G R B g 0 n c fs W → Calls Tryz.prog 10 #[.agg #[.int .i64 G.sg, .slice eo G.ob.xs.length ec, .slice xo G.tm.xs.length xc], .slice (some ⟨g, 0, none⟩) (n + 1) c, .bool bg] W fun e w' => ∃ (z : Int) (o1 o2 : Option Addr) (n1 n2 k1 k2 : Nat), e = .returned (.tuple #[.agg #[.int .i64 z, .slice o1 n1 k1, .slice o2 n2 k2], .bool false]) ∧ Flat w' B R ∧ Below B W w') := hid (fun W R g n c h => by rw [← hev, ← hxv]; exact line_wrong G R B g n c fs bg W h hd)
              have LA1 : Hid (∀ (w2 Y : World) (g n c : Nat), Below wr.drew.heap.size wr.drew w2 → TxRow w2 wr.drew.heap.size (.slice (some ⟨g, 0, none⟩) (n + 1) c) fs → fs.length = n + 1 → n + 1 ≤ c → Below w2.heap.size w2 Y → Calls Tryz.prog 10 #[.agg #[.int .i64 G.sg, .slice eo G.ob.xs.length ec, .slice xo G.tm.xs.length xc], .slice (some ⟨g, 0, none⟩) (n + 1) c, .bool bg] Y fun e w' => ∃ (z : Int) (o1 o2 : Option Addr) (n1 n2 k1 k2 : Nat), e = .returned (.tuple #[.agg #[.int .i64 z, .slice o1 n1 k1, .slice o2 n2 k2], .bool false]) ∧ Flat w' B [] ∧ Below B wr w') := hid (fun w2 Y g n c h1 h2 h3 h4 h5 => by
                have q1 : Below wr.heap.size wr w2 := from_drew h1
                have q2 : Below w2.heap.size w2 Y := h5
                have q3 : Below wr.heap.size wr Y := q1.trans (q2.mono q1.size)
                have q4 : TxRow Y wr.heap.size (.slice (some ⟨g, 0, none⟩) (n + 1) c) fs := row_base (ownsRow_below h2 q2) (Nat.le_refl _)
                have q5 : Flat Y B (G.rows ++ []) := by rw [List.append_nil]; exact hL.out.flat.below q3
                refine (LG.out Y _ g n c (LC.out Y _ g n c (Nat.le_trans hL.out.hB q3.size) q5 q4 h3 h4)).mono ?_
                rintro e w' ⟨z, o1, o2, m1, m2, c1, c2, k2, k3, k4⟩
                exact ⟨z, o1, o2, m1, m2, c1, c2, k2, k3, (q3.mono hL.out.hB).trans k4⟩)
              have LA2 : Hid (∀ (w2 Y : World) (g n c : Nat), Below (wr.alloc (.cells #[.int .i64 0, nilV, nilV] 25)).drew.heap.size (wr.alloc (.cells #[.int .i64 0, nilV, nilV] 25)).drew w2 → TxRow w2 (wr.alloc (.cells #[.int .i64 0, nilV, nilV] 25)).drew.heap.size (.slice (some ⟨g, 0, none⟩) (n + 1) c) fs → fs.length = n + 1 → n + 1 ≤ c → Below w2.heap.size w2 Y → Calls Tryz.prog 10 #[.agg #[.int .i64 G.sg, .slice eo G.ob.xs.length ec, .slice xo G.tm.xs.length xc], .slice (some ⟨g, 0, none⟩) (n + 1) c, .bool bg] Y fun e w' => ∃ (z : Int) (o1 o2 : Option Addr) (n1 n2 k1 k2 : Nat), e = .returned (.tuple #[.agg #[.int .i64 z, .slice o1 n1 k1, .slice o2 n2 k2], .bool false]) ∧ Flat w' B [sysB wr.heap.size (.int .i64 0) nilV nilV] ∧ Below B wr w') := hid (fun w2 Y g n c h1 h2 h3 h4 h5 => by
                have q1 : Below wr.heap.size wr w2 := from_alloc_drew h1
                have q2 : Below w2.heap.size w2 Y := h5
                have q3 : Below wr.heap.size wr Y := q1.trans (q2.mono q1.size)
                have q4 : TxRow Y wr.heap.size (.slice (some ⟨g, 0, none⟩) (n + 1) c) fs := row_base (ownsRow_below h2 q2) (by simp [World.drew])
                have q5 : Flat Y B (G.rows ++ [sysB wr.heap.size (.int .i64 0) nilV nilV]) := by
                  refine ((hL.out.flat.below (Below.refl wr.heap.size wr)).fresh (by have := (Below.refl wr.heap.size wr).size; have := hL.out.hB; omega) (q3) (r := sysB wr.heap.size (.int .i64 0) nilV nilV) (box_own (block_below (block_below (show (wr.alloc (.cells #[.int .i64 0, nilV, nilV] 25)).drew.heap[wr.heap.size]? = _ from heap_alloc_new wr _) h1) q2) (Nat.le_refl _))).perm ?_
                  refine perm_count fun f g hf => ?_
                  simp only [hf.c, hf.a, hf.z]
                  omega
                refine (LG.out Y _ g n c (LC.out Y _ g n c (Nat.le_trans hL.out.hB q3.size) q5 q4 h3 h4)).mono ?_
                rintro e w' ⟨z, o1, o2, m1, m2, c1, c2, k2, k3, k4⟩
                exact ⟨z, o1, o2, m1, m2, c1, c2, k2, k3, (q3.mono hL.out.hB).trans k4⟩)
              have LA3 : Hid (∀ (w2 Y : World) (g n c : Nat), Below wr.drew.heap.size wr.drew w2 → TxRow w2 wr.drew.heap.size (.slice (some ⟨g, 0, none⟩) (n + 1) c) fs → fs.length = n + 1 → n + 1 ≤ c → Below (w2.alloc (.cells #[.int .i64 0, nilV, nilV] 25)).heap.size (w2.alloc (.cells #[.int .i64 0, nilV, nilV] 25)) Y → Calls Tryz.prog 10 #[.agg #[.int .i64 G.sg, .slice eo G.ob.xs.length ec, .slice xo G.tm.xs.length xc], .slice (some ⟨g, 0, none⟩) (n + 1) c, .bool bg] Y fun e w' => ∃ (z : Int) (o1 o2 : Option Addr) (n1 n2 k1 k2 : Nat), e = .returned (.tuple #[.agg #[.int .i64 z, .slice o1 n1 k1, .slice o2 n2 k2], .bool false]) ∧ Flat w' B [sysB w2.heap.size (.int .i64 0) nilV nilV] ∧ Below B wr w') := hid (fun w2 Y g n c h1 h2 h3 h4 h5 => by
                have q1 : Below wr.heap.size wr w2 := from_drew h1
                have q2 : Below w2.heap.size w2 Y := from_alloc h5
                have q3 : Below wr.heap.size wr Y := q1.trans (q2.mono q1.size)
                have q4 : TxRow Y wr.heap.size (.slice (some ⟨g, 0, none⟩) (n + 1) c) fs := row_base (ownsRow_below h2 q2) (Nat.le_refl _)
                have q5 : Flat Y B (G.rows ++ [sysB w2.heap.size (.int .i64 0) nilV nilV]) := by
                  refine ((hL.out.flat.below (q1)).fresh (by have := (q1).size; have := hL.out.hB; omega) (q2) (r := sysB w2.heap.size (.int .i64 0) nilV nilV) (box_own (block_below (heap_alloc_new w2 _) h5) (Nat.le_refl _))).perm ?_
                  refine perm_count fun f g hf => ?_
                  simp only [hf.c, hf.a, hf.z]
                  omega
                refine (LG.out Y _ g n c (LC.out Y _ g n c (Nat.le_trans hL.out.hB q3.size) q5 q4 h3 h4)).mono ?_
                rintro e w' ⟨z, o1, o2, m1, m2, c1, c2, k2, k3, k4⟩
                exact ⟨z, o1, o2, m1, m2, c1, c2, k2, k3, (q3.mono hL.out.hB).trans k4⟩)
              go_cut [8, 9, 18] from 18 to 44 (fun p ok i wx => ok = .bool false ∧ i = .int .i64 k ∧ Below B wr wx)
              case first =>
                go_region_held3 (fun X => X.cell? ⟨P4, 0, none⟩ = some (.int .i64 G.sg) ∧ X.cell? ⟨P4, 1, none⟩ = some (.slice eo G.ob.xs.length ec) ∧ X.cell? ⟨P4, 2, none⟩ = some (.slice xo G.tm.xs.length xc)) (first | (with_reducible exact KX.out) | (with_reducible exact KY.out) | (with_reducible exact KZ.out) | (with_reducible exact KW.out) | (with_reducible exact K0.out) | go_keep)
                  (first
                    | (go_at_call_of 9 (Value.string t); with_reducible refine (SP2.out wr.drew).mono ?_; rintro e w2 ⟨lv2, rfl, hl2, hb2⟩; obtain ⟨g2, n2, c2, rfl, hn2, hc2, hg2, hS2⟩ := TxRow.form hl2 FN.out; have QW : Hid (Below wr.heap.size wr w2) := hid (from_drew hb2); have KX := hid (KC.out w2 (QW.out.mono hL.out.hB)); have HB2 : Hid (B ≤ w2.heap.size) := hid (Nat.le_trans hL.out.hB QW.out.size); have KW := hid (KC.out (w2.alloc (.cells #[.int .i64 0, nilV, nilV] 25)) ((QW.out.mono hL.out.hB).alloc HB2.out _)); have LQ := hid (fun Y hY => LA1.out w2 Y g2 n2 c2 hb2 hl2 hn2 hc2 hY); have LQ2 := hid (fun Y hY => LA3.out w2 Y g2 n2 c2 hb2 hl2 hn2 hc2 hY); clear hl2 hb2 hS2)
                    | (go_at_call_of 9 (Value.string t); with_reducible refine (SP2.out (wr.alloc (.cells #[.int .i64 0, nilV, nilV] 25)).drew).mono ?_; rintro e w2 ⟨lv2, rfl, hl2, hb2⟩; obtain ⟨g2, n2, c2, rfl, hn2, hc2, hg2, hS2⟩ := TxRow.form hl2 FN.out; have QW : Hid (Below wr.heap.size wr w2) := hid (from_alloc_drew hb2); have KX := hid (KC.out w2 (QW.out.mono hL.out.hB)); have HB2 : Hid (B ≤ w2.heap.size) := hid (Nat.le_trans hL.out.hB QW.out.size); have KW := hid (KC.out (w2.alloc (.cells #[.int .i64 0, nilV, nilV] 25)) ((QW.out.mono hL.out.hB).alloc HB2.out _)); have LQA := hid (fun Y hY => LA2.out w2 Y g2 n2 c2 hb2 hl2 hn2 hc2 hY); clear hl2 hb2 hS2)
                    | (go_at_call 10; with_reducible refine (LQ2.out _ (by first | exact Below.refl _ _ | exact (Below.refl _ _).drew)).mono ?_; rintro e w3 ⟨z, o1, o2, m1, m2, c1, c2, rfl, hF3, hb3⟩; have F3 := hid hF3; have B3 := hid hb3; have KX := hid (KC.out w3 hb3); obtain ⟨⟨j0, j1, j2⟩, j3, j4, j5, jl⟩ := three_cc (F3.out.mem_box (t := 25) (H := w2.heap.size) (xs := [.int .i64 0, nilV, nilV]) (by simp)); have KY := hid (KC.out (((w3.setCell ⟨w2.heap.size, 0, none⟩ (.int .i64 z)).setCell ⟨w2.heap.size, 1, none⟩ (.slice o1 m1 c1)).setCell ⟨w2.heap.size, 2, none⟩ (.slice o2 m2 c2)) (((hb3.setCell (p := ⟨w2.heap.size, 0, none⟩) HB2.out _).setCell (p := ⟨w2.heap.size, 1, none⟩) HB2.out _).setCell (p := ⟨w2.heap.size, 2, none⟩) HB2.out _)); clear hF3 hb3)
                    | (go_at_call 10; with_reducible refine (LQ.out _ (by first | exact Below.refl _ _ | exact (Below.refl _ _).drew)).mono ?_; rintro e w3 ⟨z, o1, o2, m1, m2, c1, c2, rfl, hF3, hb3⟩; have F3 := hid hF3; have B3 := hid hb3; have KX := hid (KC.out w3 hb3); have KY := hid (KC.out (w3.alloc (.cells #[.int .i64 z, .slice o1 m1 c1, .slice o2 m2 c2] 25)) (hb3.alloc (Nat.le_trans hL.out.hB hb3.size) _)); have KZ := hid (KC.out (w3.alloc (.cells #[.int .i64 0, nilV, nilV] 25)) (hb3.alloc (Nat.le_trans hL.out.hB hb3.size) _)); clear hF3 hb3)
                    | (go_at_call 10; with_reducible refine (LQA.out _ (by first | exact Below.refl _ _ | exact (Below.refl _ _).drew)).mono ?_; rintro e w3 ⟨z, o1, o2, m1, m2, c1, c2, rfl, hF3, hb3⟩; have F3 := hid hF3; have B3 := hid hb3; have KX := hid (KC.out w3 hb3); obtain ⟨⟨j0, j1, j2⟩, j3, j4, j5, jl⟩ := three_cc (F3.out.mem_box (t := 25) (H := wr.heap.size) (xs := [.int .i64 0, nilV, nilV]) (by simp)); have KY := hid (KC.out (((w3.setCell ⟨wr.heap.size, 0, none⟩ (.int .i64 z)).setCell ⟨wr.heap.size, 1, none⟩ (.slice o1 m1 c1)).setCell ⟨wr.heap.size, 2, none⟩ (.slice o2 m2 c2)) (((hb3.setCell (p := ⟨wr.heap.size, 0, none⟩) hL.out.hB _).setCell (p := ⟨wr.heap.size, 1, none⟩) hL.out.hB _).setCell (p := ⟨wr.heap.size, 2, none⟩) hL.out.hB _)); clear hF3 hb3))
                all_goals
                  go_wp2_with fail
                  go_meet
                  first
                    | exact ⟨rfl, rfl, B3.out.alloc (Nat.le_trans hL.out.hB B3.out.size) _⟩
                    | exact ⟨rfl, rfl, ((B3.out.setCell (p := ⟨w2.heap.size, 0, none⟩) HB2.out _).setCell (p := ⟨w2.heap.size, 1, none⟩) HB2.out _).setCell (p := ⟨w2.heap.size, 2, none⟩) HB2.out _⟩
                    | exact ⟨rfl, rfl, ((B3.out.setCell (p := ⟨wr.heap.size, 0, none⟩) hL.out.hB _).setCell (p := ⟨wr.heap.size, 1, none⟩) hL.out.hB _).setCell (p := ⟨wr.heap.size, 2, none⟩) hL.out.hB _⟩
              case rest =>
              obtain ⟨rfl, rfl, hb8⟩ := hcut
              have B8 := hid hb8
              have k2 : wc.heap[P2]? = some (.cells #[.int .i64 0, nilV, nilV] 25 (0, 0)) := (hb8.block P2 (by have := hL.out.h24; have := hL.out.h4; omega)).trans hL.out.b2
              obtain ⟨⟨i0, i1, i2⟩, i3, i4, i5, il⟩ := three_cc k2
              have BX : Hid (Below w.heap.size w wc) := hid (hL.out.lo.trans (hb8.mono (by have := hL.out.h24; have := hL.out.h4; have := hL.out.h2; omega)))
              have KX := hid (sy_box k2 (.int .i64 0) nilV nilV)
              have Q := hid (SW'.out hd)
              clear hb8 k2 a0 a1 a2 f0 f1 f2 al z0 z1 z2 y0 y1 y2 zl SI' SW' KC K0 LA1 LA2 LA3 LG LC SP2 hd
              have EQ : Hid (sysW ls 0 sy0 false = (sy0, (k : Int) + 1)) := hid (by rw [hS.out, Q.out])
              go_wp2_with fail
              obtain ⟨u0, u1, u2⟩ := KX.out
              have h2 := hL.out.h2
              rw [EQ.out]
              refine bodyPost_ret (v := .tuple #[.agg #[.int .i64 0, nilV, nilV], .int .i64 ((k : Int) + 1)]) (by simp [results, Tryz.results4, go_sem, u0, u1, u2]) rfl ⟨syG0, rfl, rfl, syG0_flat _ _, ((BX.out.setCell (p := ⟨P2, 0, none⟩) h2 _).setCell (p := ⟨P2, 1, none⟩) h2 _).setCell (p := ⟨P2, 2, none⟩) h2 _⟩
            | some d =>
              have LG : Hid (∀ (W : World) (R : List Rw) (g n c : Nat), LnC G R B g 0 n c fs W → Calls Tryz.prog 10 #[.agg #[.int .i64 G.sg, .slice eo G.ob.xs.length ec, .slice xo G.tm.xs.length xc], .slice (some ⟨g, 0, none⟩) (n + 1) c, .bool bg] W fun e w' => ∃ (G' : SyG) (o1 o2 : Option Addr) (n1 n2 k1 k2 : Nat), G'.dat = d ∧ e = .returned (.tuple #[.agg #[.int .i64 G'.sg, .slice o1 n1 k1, .slice o2 n2 k2], .bool true]) ∧ (G'.ob.v = .slice o1 n1 k1 ∧ G'.tm.v = .slice o2 n2 k2) ∧ Flat w' B (G'.rows ++ R) ∧ Below B W w') := hid (fun W R g n c h => by rw [← hev, ← hxv]; exact line_good G R B g n c fs bg d W h hd)
              have LA1 : Hid (∀ (w2 Y : World) (g n c : Nat), Below wr.drew.heap.size wr.drew w2 → TxRow w2 wr.drew.heap.size (.slice (some ⟨g, 0, none⟩) (n + 1) c) fs → fs.length = n + 1 → n + 1 ≤ c → Below w2.heap.size w2 Y → Calls Tryz.prog 10 #[.agg #[.int .i64 G.sg, .slice eo G.ob.xs.length ec, .slice xo G.tm.xs.length xc], .slice (some ⟨g, 0, none⟩) (n + 1) c, .bool bg] Y fun e w' => ∃ (G' : SyG) (o1 o2 : Option Addr) (n1 n2 k1 k2 : Nat), G'.dat = d ∧ e = .returned (.tuple #[.agg #[.int .i64 G'.sg, .slice o1 n1 k1, .slice o2 n2 k2], .bool true]) ∧ (G'.ob.v = .slice o1 n1 k1 ∧ G'.tm.v = .slice o2 n2 k2) ∧ Flat w' B (G'.rows ++ []) ∧ Below B wr w') := hid (fun w2 Y g n c h1 h2 h3 h4 h5 => by
                have q1 : Below wr.heap.size wr w2 := from_drew h1
                have q2 : Below w2.heap.size w2 Y := h5
                have q3 : Below wr.heap.size wr Y := q1.trans (q2.mono q1.size)
                have q4 : TxRow Y wr.heap.size (.slice (some ⟨g, 0, none⟩) (n + 1) c) fs := row_base (ownsRow_below h2 q2) (Nat.le_refl _)
                have q5 : Flat Y B (G.rows ++ []) := by rw [List.append_nil]; exact hL.out.flat.below q3
                refine (LG.out Y _ g n c (LC.out Y _ g n c (Nat.le_trans hL.out.hB q3.size) q5 q4 h3 h4)).mono ?_
                rintro e w' ⟨G', o1, o2, m1, m2, c1, c2, k1, k2, k5, k3, k4⟩
                exact ⟨G', o1, o2, m1, m2, c1, c2, k1, k2, k5, k3, (q3.mono hL.out.hB).trans k4⟩)
              have LA2 : Hid (∀ (w2 Y : World) (g n c : Nat), Below (wr.alloc (.cells #[.int .i64 0, nilV, nilV] 25)).drew.heap.size (wr.alloc (.cells #[.int .i64 0, nilV, nilV] 25)).drew w2 → TxRow w2 (wr.alloc (.cells #[.int .i64 0, nilV, nilV] 25)).drew.heap.size (.slice (some ⟨g, 0, none⟩) (n + 1) c) fs → fs.length = n + 1 → n + 1 ≤ c → Below w2.heap.size w2 Y → Calls Tryz.prog 10 #[.agg #[.int .i64 G.sg, .slice eo G.ob.xs.length ec, .slice xo G.tm.xs.length xc], .slice (some ⟨g, 0, none⟩) (n + 1) c, .bool bg] Y fun e w' => ∃ (G' : SyG) (o1 o2 : Option Addr) (n1 n2 k1 k2 : Nat), G'.dat = d ∧ e = .returned (.tuple #[.agg #[.int .i64 G'.sg, .slice o1 n1 k1, .slice o2 n2 k2], .bool true]) ∧ (G'.ob.v = .slice o1 n1 k1 ∧ G'.tm.v = .slice o2 n2 k2) ∧ Flat w' B (G'.rows ++ [sysB wr.heap.size (.int .i64 0) nilV nilV]) ∧ Below B wr w') := hid (fun w2 Y g n c h1 h2 h3 h4 h5 => by
                have q1 : Below wr.heap.size wr w2 := from_alloc_drew h1
                have q2 : Below w2.heap.size w2 Y := h5
                have q3 : Below wr.heap.size wr Y := q1.trans (q2.mono q1.size)
                have q4 : TxRow Y wr.heap.size (.slice (some ⟨g, 0, none⟩) (n + 1) c) fs := row_base (ownsRow_below h2 q2) (by simp [World.drew])
                have q5 : Flat Y B (G.rows ++ [sysB wr.heap.size (.int .i64 0) nilV nilV]) := by
                  refine ((hL.out.flat.below (Below.refl wr.heap.size wr)).fresh (by have := (Below.refl wr.heap.size wr).size; have := hL.out.hB; omega) (q3) (r := sysB wr.heap.size (.int .i64 0) nilV nilV) (box_own (block_below (block_below (show (wr.alloc (.cells #[.int .i64 0, nilV, nilV] 25)).drew.heap[wr.heap.size]? = _ from heap_alloc_new wr _) h1) q2) (Nat.le_refl _))).perm ?_
                  refine perm_count fun f g hf => ?_
                  simp only [hf.c, hf.a, hf.z]
                  omega
                refine (LG.out Y _ g n c (LC.out Y _ g n c (Nat.le_trans hL.out.hB q3.size) q5 q4 h3 h4)).mono ?_
                rintro e w' ⟨G', o1, o2, m1, m2, c1, c2, k1, k2, k5, k3, k4⟩
                exact ⟨G', o1, o2, m1, m2, c1, c2, k1, k2, k5, k3, (q3.mono hL.out.hB).trans k4⟩)
              have LA3 : Hid (∀ (w2 Y : World) (g n c : Nat), Below wr.drew.heap.size wr.drew w2 → TxRow w2 wr.drew.heap.size (.slice (some ⟨g, 0, none⟩) (n + 1) c) fs → fs.length = n + 1 → n + 1 ≤ c → Below (w2.alloc (.cells #[.int .i64 0, nilV, nilV] 25)).heap.size (w2.alloc (.cells #[.int .i64 0, nilV, nilV] 25)) Y → Calls Tryz.prog 10 #[.agg #[.int .i64 G.sg, .slice eo G.ob.xs.length ec, .slice xo G.tm.xs.length xc], .slice (some ⟨g, 0, none⟩) (n + 1) c, .bool bg] Y fun e w' => ∃ (G' : SyG) (o1 o2 : Option Addr) (n1 n2 k1 k2 : Nat), G'.dat = d ∧ e = .returned (.tuple #[.agg #[.int .i64 G'.sg, .slice o1 n1 k1, .slice o2 n2 k2], .bool true]) ∧ (G'.ob.v = .slice o1 n1 k1 ∧ G'.tm.v = .slice o2 n2 k2) ∧ Flat w' B (G'.rows ++ [sysB w2.heap.size (.int .i64 0) nilV nilV]) ∧ Below B wr w') := hid (fun w2 Y g n c h1 h2 h3 h4 h5 => by
                have q1 : Below wr.heap.size wr w2 := from_drew h1
                have q2 : Below w2.heap.size w2 Y := from_alloc h5
                have q3 : Below wr.heap.size wr Y := q1.trans (q2.mono q1.size)
                have q4 : TxRow Y wr.heap.size (.slice (some ⟨g, 0, none⟩) (n + 1) c) fs := row_base (ownsRow_below h2 q2) (Nat.le_refl _)
                have q5 : Flat Y B (G.rows ++ [sysB w2.heap.size (.int .i64 0) nilV nilV]) := by
                  refine ((hL.out.flat.below (q1)).fresh (by have := (q1).size; have := hL.out.hB; omega) (q2) (r := sysB w2.heap.size (.int .i64 0) nilV nilV) (box_own (block_below (heap_alloc_new w2 _) h5) (Nat.le_refl _))).perm ?_
                  refine perm_count fun f g hf => ?_
                  simp only [hf.c, hf.a, hf.z]
                  omega
                refine (LG.out Y _ g n c (LC.out Y _ g n c (Nat.le_trans hL.out.hB q3.size) q5 q4 h3 h4)).mono ?_
                rintro e w' ⟨G', o1, o2, m1, m2, c1, c2, k1, k2, k5, k3, k4⟩
                exact ⟨G', o1, o2, m1, m2, c1, c2, k1, k2, k5, k3, (q3.mono hL.out.hB).trans k4⟩)
              go_cut [8, 9, 18] from 18 to 44 (fun p ok i wx => ∃ (H8 : Nat) (G' : SyG), p = .pointer (some ⟨H8, 0, none⟩) ∧ ok = .bool true ∧ i = .int .i64 k ∧ G'.dat = d ∧ Below B wr wx ∧ Flat wx B (sysB H8 (.int .i64 G'.sg) G'.ob.v G'.tm.v :: G'.rows))
              case first =>
                go_region_held3 (fun X => X.cell? ⟨P4, 0, none⟩ = some (.int .i64 G.sg) ∧ X.cell? ⟨P4, 1, none⟩ = some (.slice eo G.ob.xs.length ec) ∧ X.cell? ⟨P4, 2, none⟩ = some (.slice xo G.tm.xs.length xc)) (first | (with_reducible exact KX.out) | (with_reducible exact KY.out) | (with_reducible exact KZ.out) | (with_reducible exact KW.out) | (with_reducible exact K0.out) | go_keep)
                  (first
                    | (go_at_call_of 9 (Value.string t); with_reducible refine (SP2.out wr.drew).mono ?_; rintro e w2 ⟨lv2, rfl, hl2, hb2⟩; obtain ⟨g2, n2, c2, rfl, hn2, hc2, hg2, hS2⟩ := TxRow.form hl2 FN.out; have QW : Hid (Below wr.heap.size wr w2) := hid (from_drew hb2); have KX := hid (KC.out w2 (QW.out.mono hL.out.hB)); have HB2 : Hid (B ≤ w2.heap.size) := hid (Nat.le_trans hL.out.hB QW.out.size); have KW := hid (KC.out (w2.alloc (.cells #[.int .i64 0, nilV, nilV] 25)) ((QW.out.mono hL.out.hB).alloc HB2.out _)); have LQ := hid (fun Y hY => LA1.out w2 Y g2 n2 c2 hb2 hl2 hn2 hc2 hY); have LQ2 := hid (fun Y hY => LA3.out w2 Y g2 n2 c2 hb2 hl2 hn2 hc2 hY); clear hl2 hb2 hS2)
                    | (go_at_call_of 9 (Value.string t); with_reducible refine (SP2.out (wr.alloc (.cells #[.int .i64 0, nilV, nilV] 25)).drew).mono ?_; rintro e w2 ⟨lv2, rfl, hl2, hb2⟩; obtain ⟨g2, n2, c2, rfl, hn2, hc2, hg2, hS2⟩ := TxRow.form hl2 FN.out; have QW : Hid (Below wr.heap.size wr w2) := hid (from_alloc_drew hb2); have KX := hid (KC.out w2 (QW.out.mono hL.out.hB)); have HB2 : Hid (B ≤ w2.heap.size) := hid (Nat.le_trans hL.out.hB QW.out.size); have KW := hid (KC.out (w2.alloc (.cells #[.int .i64 0, nilV, nilV] 25)) ((QW.out.mono hL.out.hB).alloc HB2.out _)); have LQA := hid (fun Y hY => LA2.out w2 Y g2 n2 c2 hb2 hl2 hn2 hc2 hY); clear hl2 hb2 hS2)
                    | (go_at_call 10; with_reducible refine (LQ2.out _ (by first | exact Below.refl _ _ | exact (Below.refl _ _).drew)).mono ?_; rintro e w3 ⟨G', o1, o2, m1, m2, c1, c2, hG', rfl, hV, hF3, hb3⟩; have F3 := hid hF3; have B3 := hid hb3; have D3 := hid hG'; have V3 := hid hV; have KX := hid (KC.out w3 hb3); obtain ⟨⟨j0, j1, j2⟩, j3, j4, j5, jl⟩ := three_cc (F3.out.mem_box (t := 25) (H := w2.heap.size) (xs := [.int .i64 0, nilV, nilV]) (by simp)); have KY := hid (KC.out (((w3.setCell ⟨w2.heap.size, 0, none⟩ (.int .i64 G'.sg)).setCell ⟨w2.heap.size, 1, none⟩ (.slice o1 m1 c1)).setCell ⟨w2.heap.size, 2, none⟩ (.slice o2 m2 c2)) (((hb3.setCell (p := ⟨w2.heap.size, 0, none⟩) HB2.out _).setCell (p := ⟨w2.heap.size, 1, none⟩) HB2.out _).setCell (p := ⟨w2.heap.size, 2, none⟩) HB2.out _)); clear hF3 hb3 hG' hV)
                    | (go_at_call 10; with_reducible refine (LQ.out _ (by first | exact Below.refl _ _ | exact (Below.refl _ _).drew)).mono ?_; rintro e w3 ⟨G', o1, o2, m1, m2, c1, c2, hG', rfl, hV, hF3, hb3⟩; have F3 := hid hF3; have B3 := hid hb3; have D3 := hid hG'; have V3 := hid hV; have KX := hid (KC.out w3 hb3); have KY := hid (KC.out (w3.alloc (.cells #[.int .i64 G'.sg, .slice o1 m1 c1, .slice o2 m2 c2] 25)) (hb3.alloc (Nat.le_trans hL.out.hB hb3.size) _)); have KZ := hid (KC.out (w3.alloc (.cells #[.int .i64 0, nilV, nilV] 25)) (hb3.alloc (Nat.le_trans hL.out.hB hb3.size) _)); clear hF3 hb3 hG' hV)
                    | (go_at_call 10; with_reducible refine (LQA.out _ (by first | exact Below.refl _ _ | exact (Below.refl _ _).drew)).mono ?_; rintro e w3 ⟨G', o1, o2, m1, m2, c1, c2, hG', rfl, hV, hF3, hb3⟩; have F3 := hid hF3; have B3 := hid hb3; have D3 := hid hG'; have V3 := hid hV; have KX := hid (KC.out w3 hb3); obtain ⟨⟨j0, j1, j2⟩, j3, j4, j5, jl⟩ := three_cc (F3.out.mem_box (t := 25) (H := wr.heap.size) (xs := [.int .i64 0, nilV, nilV]) (by simp)); have KY := hid (KC.out (((w3.setCell ⟨wr.heap.size, 0, none⟩ (.int .i64 G'.sg)).setCell ⟨wr.heap.size, 1, none⟩ (.slice o1 m1 c1)).setCell ⟨wr.heap.size, 2, none⟩ (.slice o2 m2 c2)) (((hb3.setCell (p := ⟨wr.heap.size, 0, none⟩) hL.out.hB _).setCell (p := ⟨wr.heap.size, 1, none⟩) hL.out.hB _).setCell (p := ⟨wr.heap.size, 2, none⟩) hL.out.hB _)); clear hF3 hb3 hG' hV))
                all_goals
                  go_wp2_with fail
                  go_meet
                  first
                    | exact ⟨w3.heap.size, G', rfl, rfl, rfl, D3.out, B3.out.alloc (Nat.le_trans hL.out.hB B3.out.size) _, close_new (Nat.le_trans hL.out.hB B3.out.size) V3.out F3.out⟩
                    | exact ⟨w2.heap.size, G', rfl, rfl, rfl, D3.out, ((B3.out.setCell (p := ⟨w2.heap.size, 0, none⟩) HB2.out _).setCell (p := ⟨w2.heap.size, 1, none⟩) HB2.out _).setCell (p := ⟨w2.heap.size, 2, none⟩) HB2.out _, close_old V3.out F3.out⟩
                    | exact ⟨wr.heap.size, G', rfl, rfl, rfl, D3.out, ((B3.out.setCell (p := ⟨wr.heap.size, 0, none⟩) hL.out.hB _).setCell (p := ⟨wr.heap.size, 1, none⟩) hL.out.hB _).setCell (p := ⟨wr.heap.size, 2, none⟩) hL.out.hB _, close_old V3.out F3.out⟩
              case rest =>
              obtain ⟨H8, G', rfl, rfl, rfl, hd8, hb8, hf8⟩ := hcut
              have F8 := hid hf8
              have B8 := hid hb8
              obtain ⟨e1, e2, e3, e4, hv1, hv2⟩ := SyG.form (R := []) (by rw [List.append_nil]; exact hf8.tail)
              obtain ⟨⟨j0, j1, j2⟩, j3, j4, j5, jl⟩ := three_cc (box_blk hf8.head)
              rw [hv1] at j1
              rw [hv2] at j2
              obtain ⟨_, k4, _, _, _⟩ := hL.out.next hb8 hf8.tail
              obtain ⟨⟨i0, i1, i2⟩, i3, i4, i5, il⟩ := three_cc k4
              rw [hev] at i1
              rw [hxv] at i2
              have LP := hid (hL.out.put hb8 hf8.tail)
              rw [hv1, hv2] at LP
              have Q := hid (SI'.out d hd)
              have SM := hid (lineW_sm hA.out hd)
              have D8 := hid hd8
              clear hf8 hb8 k4 a0 a1 a2 f0 f1 f2 al z0 z1 z2 y0 y1 y2 zl SI' SW' KC K0 LA1 LA2 LA3 LG LC SP2 hd8 hd
              go_wp2_with fail
              go_roundw
              case rel => exact ⟨k + 1, G', true, hlt, by go_num, rfl, hid (by rw [hS.out, Q.out, D8.out]), hid (by rw [D8.out]; exact SM.out), LP⟩
              case measure => simp [intOf]; omega
      · have ek : k = ln := by omega
        subst ek
        rw [List.drop_of_length_le (by rw [HL2.out]; exact Nat.le_refl _)] at hS
        cases bg with
        | false =>
          have E2 : Hid (sysW ls 0 sy0 false = (sy0, -2)) := hid (by rw [hS.out]; rfl)
          go_wp2
          rw [E2.out]
          obtain ⟨u0, u1, u2⟩ := sy_box hL.out.b2 (.int .i64 0) nilV nilV
          have h2 := hL.out.h2
          refine bodyPost_ret (v := .tuple #[.agg #[.int .i64 0, nilV, nilV], .int .i64 (-2)]) (by simp [results, Tryz.results4, go_sem, u0, u1, u2]) rfl ⟨syG0, rfl, rfl, syG0_flat _ _, ((hL.out.lo.setCell (p := ⟨P2, 0, none⟩) h2 _).setCell (p := ⟨P2, 1, none⟩) h2 _).setCell (p := ⟨P2, 2, none⟩) h2 _⟩
        | true =>
          have E2 : Hid (sysW ls 0 sy0 false = (G.dat, 0)) := hid (by rw [hS.out]; rfl)
          have K2 := hid (sy_box hL.out.b2 (.int .i64 G.sg) (.slice eo G.ob.xs.length ec) (.slice xo G.tm.xs.length xc))
          have FZ : Hid (Flat (((wr.setCell ⟨P2, 0, none⟩ (.int .i64 G.sg)).setCell ⟨P2, 1, none⟩ (.slice eo G.ob.xs.length ec)).setCell ⟨P2, 2, none⟩ (.slice xo G.tm.xs.length xc)) w.heap.size G.rows ∧ Below w.heap.size w (((wr.setCell ⟨P2, 0, none⟩ (.int .i64 G.sg)).setCell ⟨P2, 1, none⟩ (.slice eo G.ob.xs.length ec)).setCell ⟨P2, 2, none⟩ (.slice xo G.tm.xs.length xc))) := hid (by
            have h2 := hL.out.h2; have h24 := hL.out.h24; have h4 := hL.out.h4
            have h2B : P2 < B := by omega
            exact ⟨(((hL.out.flat.setLow h2B _ _).setLow h2B _ _).setLow h2B _ _).base (by omega), ((hL.out.lo.setCell (p := ⟨P2, 0, none⟩) h2 _).setCell (p := ⟨P2, 1, none⟩) h2 _).setCell (p := ⟨P2, 2, none⟩) h2 _⟩)
          go_wp2
          obtain ⟨u0, u1, u2⟩ := K2.out
          rw [E2.out]
          refine bodyPost_ret (v := .tuple #[.agg #[.int .i64 G.sg, .slice eo G.ob.xs.length ec, .slice xo G.tm.xs.length xc], .int .i64 0]) (by simp [results, Tryz.results4, go_sem, u0, u1, u2]) rfl ⟨G, rfl, ?_, FZ.out.1, FZ.out.2⟩
          rw [SyG.val, hev, hxv]
end Go.Proofs.YtbcjlpjohknljaaGreatDoor
