import Derived.Test.YtcdcjpejlhcdnaaDoorSr16
namespace Go.Proofs.YtcdcjpejlhcdnaaDoor
open Go.RowKit Go.Sort
set_option linter.unusedVariables false
attribute [local go_sem ↓] Go.wp_at_zero Go.wp_at_succ

theorem getD_dropL (LS : List (List UInt8)) (c i : Nat) : (LS.drop c).getD i [] = LS.getD (c + i) [] := by simp [List.getD_eq_getElem?_getD]
theorem scr_skips {LS : List (List UInt8)} {acc : List ScI} : ∀ (j c : Nat), c + j ≤ LS.length → (∀ i, i < j → skipB ((LS.drop c).getD i []) = true) → scr (LS.drop c) c acc = scr (LS.drop (c + j)) (c + j) acc
  | 0, c, _, _ => by simp
  | j + 1, c, hl, h => by
    have h0 := h 0 (by omega)
    rw [getD_dropL, Nat.add_zero] at h0
    rw [scr_skip (by omega) h0, scr_skips j (c + 1) (by omega) (fun i hi => by
      have := h (i + 1) (by omega)
      rw [getD_dropL] at this ⊢
      rw [show c + 1 + i = c + (i + 1) by omega]
      exact this)]
    rw [show c + 1 + j = c + (j + 1) by omega]
theorem scr_end {LS : List (List UInt8)} {acc : List ScI} {c : Nat} (hc : c ≤ LS.length) (h : ∀ i, i < (LS.drop c).length → skipB ((LS.drop c).getD i []) = true) : scr (LS.drop c) c acc = (acc, 0) := by
  have hl : (LS.drop c).length = LS.length - c := by simp
  rw [scr_skips (LS.length - c) c (by omega) (fun i hi => h i (by omega)), List.drop_of_length_le (by omega)]
  rfl
theorem TxRow.tag {w : World} {B n cap : Nat} {ao : Option Addr} {fs : List (List UInt8)} (h : TxRow w B (.slice ao n cap) fs) : TagS w ao n := fun hn => by
  rcases h.2 with ⟨h0, h1⟩ | ⟨g, cap', cur, h1, h2, h3, h4⟩
  · simp only [Value.slice.injEq] at h0; omega
  · simp only [Value.slice.injEq] at h1
    exact ⟨g, 0, cur, (0, 0), h1.1, h3⟩
/-- A script's lines read. -/
def LinesTo (B R : Nat) (LS : List (List UInt8)) (e : Ending) (w' : World) : Prop :=
  (∃ acc v', scr LS 0 [] = (acc, 0) ∧ e = .returned .nilIface ∧ RAt w' B R v' acc ∧ acc.length ≤ 4000) ∨
  (∃ (n : Nat) (L : Nat) (x : Value), scr LS 0 [] = ([], ((n + 1 : Nat) : Int)) ∧ e = .returned (.iface 50 (.pointer (some ⟨L, 0, none⟩))) ∧ w'.heap[L]? = some (.cells #[.int .i64 ((n + 1 : Nat) : Int), x] 54 (0, 0)))
/-- Where the reading of a script stands. -/
def LoopAt (B R M S : Nat) (s : ByteArray) (LS : List (List UInt8)) (w0 : World) (m : Nat) (l o : Value) (wr : World) : Prop :=
  ∃ acc v, acc.length ≤ 4000 ∧ RAt wr B R v acc ∧ wr.heap[M]? = some (.map (rdMap R) 4) ∧ Below B w0 wr ∧
    ((∃ c k, o = .bool true ∧ m = LS.length - c ∧ c < LS.length ∧ skipB (LS.getD c []) = false ∧ scr LS 0 [] = scr (LS.drop c) c acc ∧ TxRow wr B l (cut 32 (LS.getD c [])) ∧ SAt wr S s k (c + 1) ∧ k ≤ s.size + 1 ∧ linesFrom (bl s) k = LS.drop (c + 1)) ∨
     (o = .bool false ∧ scr LS 0 [] = (acc, 0) ∧ ∃ a n c, l = .slice a n c))
theorem map_far {w w' : World} {S : Nat → Prop} {M : Nat} {es : Array MapEntry} {n : Nat} (h : w.heap[M]? = some (.map es n)) (ht : Tn S w w') (hs : ∀ b, S b → ∃ cs t fr, w.heap[b]? = some (.cells cs t fr)) : w'.heap[M]? = some (.map es n) :=
  ht.at h (fun e => by obtain ⟨cs, t, fr, h2⟩ := hs M e; rw [h] at h2; cases h2)
/-- Behind a cut of the next line. -/
theorem loop_next {B R M S : Nat} {s : ByteArray} {LS : List (List UInt8)} {w0 w w' : World} {acc : List ScI} {v : Value} {c k : Nat} {e : Ending} (hacc : acc.length ≤ 4000) (hr : RAt w B R v acc) (hm : w.heap[M]? = some (.map (rdMap R) 4)) (hb : Below B w0 w) (hB : B ≤ w.heap.size) (hc : c ≤ LS.length) (hscr : scr LS 0 [] = scr (LS.drop c) c acc) (hS : SAt w S s k c) (hk : linesFrom (bl s) k = LS.drop c) (hSB : B ≤ S)
    (hn : NextTo S s k c w.heap.size e w') (ht : Tn (· = S) w w') : ∃ l o, e = .returned (.tuple #[l, o]) ∧ (∃ a n c, l = .slice a n c) ∧ (∃ b, o = .bool b) ∧ ∃ m, m ≤ LS.length - c ∧ LoopAt B R M S s LS w0 m l o w' := by
  have hcell : w.heap[S]? = some (.cells #[.string s, .int .i64 k, .int .i64 c] 60 (0, 0)) := hS
  have hRS : ¬ R = S := by
    rintro rfl
    have := hr.blk
    rw [hcell] at this
    simp at this
  have hr' : RAt w' B R v acc := hr.tn ht hRS (fun b hb2 => by rw [hb2]; exact own_far2 hr.row (by decide) hcell)
  have hm' : w'.heap[M]? = some (.map (rdMap R) 4) := map_far hm ht (fun b hb2 => by rw [hb2]; exact ⟨_, _, _, hcell⟩)
  have hb' : Below B w0 w' := hb.trans (ht.below hB (fun i hi => by rw [hi]; exact hSB))
  rcases hn with ⟨j, l, k', rfl, h1, h2, h3, h4, h5, h6, h7⟩ | ⟨rfl, h1⟩
  · rw [hk] at h1 h2 h3 h4 h7
    have hl : c + j < LS.length := by simp at h2; omega
    rw [getD_dropL] at h3 h4
    refine ⟨l, .bool true, rfl, row_form h4, ⟨_, rfl⟩, LS.length - (c + j), by omega, acc, v, hacc, hr', hm', hb', .inl ⟨c + j, k', rfl, rfl, hl, h3, ?_, row_base h4 hB, ?_, h6, ?_⟩⟩
    · rw [hscr]; exact scr_skips j c (by omega) h1
    · exact h5
    · rw [h7, List.drop_drop]; congr 1
  · rw [hk] at h1
    refine ⟨.slice none 0 0, .bool false, rfl, ⟨_, _, _, rfl⟩, ⟨_, rfl⟩, 0, Nat.zero_le _, acc, v, hacc, hr', hm', hb', .inr ⟨rfl, ?_, ⟨_, _, _, rfl⟩⟩⟩
    rw [hscr]; exact scr_end hc h1

set_option maxRecDepth 100000 in
set_option maxHeartbeats 4000000 in
theorem readLines_any (B R M : Nat) (s : ByteArray) (w : World) (v : Value) (hs : s.size ≤ 30000) (hv : Vars w) (hB12 : 12 < B) (hB : B ≤ w.heap.size) (hr : RAt w B R v []) (hm : w.heap[M]? = some (.map (rdMap R) 4)) :
    Calls Tryd.prog 17 #[.string s, .map (some M)] w fun e w' => LinesTo B R (cut 10 (bl s)) e w' ∧ Below B w w' := by
  obtain ⟨LS, hLS⟩ : ∃ l, l = cut 10 (bl s) := ⟨_, rfl⟩
  have hL0 : linesFrom (bl s) 0 = LS := by unfold linesFrom; rw [if_pos (Nat.zero_le _), hLS]; simp
  have LLn : LS.length ≤ 30001 := by rw [hLS]; have := cut_len 10 (bl s); rw [bl_len] at this; omega
  have LE : ∀ f ∈ LS, f.length ≤ 30000 := by intro f hf; rw [hLS] at hf; have := cut_each 10 (bl s) f hf; rw [bl_len] at this; omega
  rw [← hLS]
  obtain ⟨W0, hW0⟩ : ∃ W, W = w.alloc (.cells #[.string s, .int .i64 0, .int .i64 0] 60) := ⟨_, rfl⟩
  have BW : Below w.heap.size w W0 := by rw [hW0]; exact below1 _ _
  have S0 : SAt W0 w.heap.size s 0 0 := by rw [hW0]; exact heap_alloc_new _ _
  have C0 := next_line w.heap.size s 0 0 W0 (by omega) (by omega) (by omega) S0
  have C1 : Calls Tryd.prog 22 #[.pointer (some ⟨w.heap.size, 0, none⟩)] W0 fun e w' => ∃ l o, e = .returned (.tuple #[l, o]) ∧ (∃ a n c, l = .slice a n c) ∧ (∃ b, o = .bool b) ∧ ∃ m, m ≤ LS.length - 0 ∧ LoopAt B R M w.heap.size s LS w m l o w' := C0.mono (by
    rintro e w' ⟨h1, h2⟩
    exact loop_next (c := 0) (k := 0) (acc := []) (by simp) (hr.below BW) (block_below hm BW) (BW.mono hB) (Nat.le_trans hB BW.size) (Nat.zero_le _) (by simp) S0 (by rw [hL0]; simp) hB h1 h2)
  have HC := hid C1
  have HV := hid hv
  have HW0 := hid hW0
  have HLE := hid LE
  clear hv hr hm hLS hL0 LE hW0 BW S0 C0 C1
  go_enter Tryd.func17, Tryd.ntmps17
  go_wp2_with fail
  rw [← HW0.out]
  clear HW0
  with_reducible refine HC.out.mono ?_
  rintro e w1 ⟨l, o, rfl, ⟨la, lm, lc, rfl⟩, ⟨ob, rfl⟩, m0, hm0, hl0⟩
  have H1 := hid hl0
  clear hl0 HC
  go_wp2
  go_loopg [6, 7] m0 (fun m l o wr => m ≤ LS.length ∧ (∃ a n c, l = .slice a n c) ∧ (∃ b, o = .bool b) ∧ Hid (LoopAt B R M w.heap.size s LS w m l o wr))
  case atStart => exact ⟨by omega, ⟨_, _, _, rfl⟩, ⟨_, rfl⟩, H1⟩
  case round =>
    obtain ⟨hm, ⟨la, lm, lc, rfl⟩, ⟨ob, rfl⟩, HH⟩ := hrel
    cases ob with
    | false =>
      obtain ⟨acc, v', ha, hr, hmm, hb, h | ⟨_, h2, _⟩⟩ := HH.out
      · obtain ⟨c, k, h, _⟩ := h; cases h
      · have HA := hid h2
        have HR := hid hr
        have HB := hid hb
        clear HH hr hmm hb h2
        go_wp2
        go_ret
        exact ⟨.inl ⟨acc, v', HA.out, rfl, HR.out, ha⟩, HB.out⟩
    | true =>
      obtain ⟨acc, v', ha, hr, hmm, hb, ⟨c, k, _, hmc, hc, hsk, hscr, hrow, hS, hk, hlk⟩ | ⟨h, _⟩⟩ := HH.out
      · obtain ⟨g, n, cap, hvv, hfn, hcap, hgB, hst⟩ := TxRow.form hrow (cut_ne 32 _)
        simp only [Value.slice.injEq] at hvv
        obtain ⟨rfl, rfl, rfl⟩ := hvv
        have hlc : (LS.getD c []).length ≤ 30000 := HLE.out _ (by simp [List.getD_eq_getElem?_getD, hc])
        have hz : B ≤ wr.heap.size := Nat.le_trans hB hb.size
        have hVr := HV.out.below hb hB12 hB
        have hnl : n + 1 ≤ 30001 := by have := cut_len 32 (LS.getD c []); omega
        have C := readLine_any g 0 n lc M R B (cut 32 (LS.getD c [])) v' acc wr hVr (by omega) hB12 hz ha (by omega) hcap (fun f hf => by have := cut_each 32 (LS.getD c []) f hf; omega) hst hrow.tag hmm hr
        have hcell : wr.heap[w.heap.size]? = some (.cells #[.string s, .int .i64 k, .int .i64 ((c + 1 : Nat) : Int)] 60 (0, 0)) := hS
        have hSet : ∀ b, (b = R ∨ v'.ownBlock = some b) → ∃ cs t fr, wr.heap[b]? = some (.cells cs t fr) ∧ t ≠ 60 ∧ B ≤ b := by
          intro b hb2
          rcases hb2 with rfl | hb2
          · exact ⟨_, _, _, hr.blk, by decide, hr.lo⟩
          · rcases hr.row.2 with ⟨h0, _⟩ | ⟨g', cap', cur, k1, k2, k3, k4⟩
            · rw [h0] at hb2; cases hb2
            · rw [k1] at hb2
              simp [Value.ownBlock] at hb2
              subst hb2
              exact ⟨_, _, _, k3, by decide, k2⟩
        have hnS : ¬ (w.heap.size = R ∨ v'.ownBlock = some w.heap.size) := fun e => by
          obtain ⟨cs, t, fr, h1, h2, _⟩ := hSet _ e
          rw [hcell] at h1
          simp at h1
          exact h2 h1.2.1.symm
        by_cases hok : ∃ it, itemOf (cut 32 (LS.getD c [])) = some it ∧ acc.length < 4000
        · obtain ⟨it, hit, hal⟩ := hok
          have C2 : Hid (Calls Tryd.prog 23 #[.slice (some ⟨g, 0, none⟩) (n + 1) lc, .map (some M)] wr fun e w' => e = .returned .nilIface ∧ ∃ v'', RAt w' B R v'' (acc ++ [it]) ∧ w'.heap[M]? = some (.map (rdMap R) 4) ∧ Below B w w' ∧ SAt w' w.heap.size s k (c + 1)) := hid (C.mono (by
            rintro e w' ⟨⟨ev, rfl, he⟩, h2, ht⟩
            rw [hit] at he
            have hd : decide (acc.length < 4000) = true := by simpa using hal
            rw [hd] at he
            rcases he with ⟨_, rfl⟩ | ⟨h, _⟩
            · obtain ⟨v'', hr2⟩ := h2 it hit
              exact ⟨rfl, v'', hr2, map_far hmm ht (fun b hb2 => by obtain ⟨cs, t, fr, h1, _⟩ := hSet b hb2; exact ⟨cs, t, fr, h1⟩), hb.trans (ht.below hz (fun i hi => by obtain ⟨_, _, _, _, _, h3⟩ := hSet i hi; exact h3)), ht.at hcell hnS⟩
            · cases h))
          have Q : Hid (scr LS 0 [] = scr (LS.drop (c + 1)) (c + 1) (acc ++ [it])) := hid (by rw [hscr]; exact scr_item hc hsk hit (by omega))
          have HLK := hid hlk
          have HK := hid hk
          have HMC := hid hmc
          clear HH hr hmm hb hscr hrow hS hst C hcell hSet hnS hit hVr hlk hfn hmc
          go_wp2_with (go_at_call 23; with_reducible refine C2.out.mono ?_)
          rintro e w2 ⟨rfl, v'', hr2, hm2, hb2, hs2⟩
          have Z2 := Nat.le_trans hB hb2.size
          have N2 := next_line w.heap.size s k (c + 1) w2 (by omega) HK.out (by omega) hs2
          have N3 : Hid (Calls Tryd.prog 22 #[.pointer (some ⟨w.heap.size, 0, none⟩)] w2 fun e w' => ∃ l o, e = .returned (.tuple #[l, o]) ∧ (∃ a n c, l = .slice a n c) ∧ (∃ b, o = .bool b) ∧ ∃ m, m ≤ LS.length - (c + 1) ∧ LoopAt B R M w.heap.size s LS w m l o w') := hid (N2.mono (by
            rintro e w' ⟨h1, h2⟩
            exact loop_next (c := c + 1) (k := k) (acc := acc ++ [it]) (by simp; omega) hr2 hm2 hb2 Z2 (by omega) Q.out hs2 HLK.out hB h1 h2))
          clear hr2 hm2 hb2 hs2 N2 Z2
          go_wp2_with (go_at_call 22; with_reducible refine N3.out.mono ?_)
          rintro e w3 ⟨l, o, rfl, ⟨la, lm, lc', rfl⟩, ⟨ob, rfl⟩, m3, hm3, hl3⟩
          have H3 := hid hl3
          clear hl3
          go_wp2
          go_roundg m3
          case measure => have := HMC.out; omega
          case rel => exact ⟨by omega, ⟨_, _, _, rfl⟩, ⟨_, rfl⟩, H3⟩
        · have C2 : Hid (Calls Tryd.prog 23 #[.slice (some ⟨g, 0, none⟩) (n + 1) lc, .map (some M)] wr fun e w' => (∃ te pe, e = .returned (.iface te pe)) ∧ Below B w w' ∧ SAt w' w.heap.size s k (c + 1)) := hid (C.mono (by
            rintro e w' ⟨⟨ev, rfl, he⟩, h2, ht⟩
            refine ⟨?_, hb.trans (ht.below hz (fun i hi => by obtain ⟨_, _, _, _, _, h3⟩ := hSet i hi; exact h3)), ht.at hcell hnS⟩
            rcases he with ⟨h, _⟩ | ⟨_, te, pe, rfl⟩
            · exfalso
              cases hx : itemOf (cut 32 (LS.getD c [])) with
              | none => rw [hx] at h; cases h
              | some it =>
                refine hok ⟨it, hx, ?_⟩
                rw [hx] at h
                simpa using h
            · exact ⟨te, pe, rfl⟩))
          have Q : Hid (scr LS 0 [] = ([], ((c + 1 : Nat) : Int))) := hid (by
            rw [hscr, scr_wrong hc hsk ?_]
            · push_cast; rfl
            · cases hx : itemOf (cut 32 (LS.getD c [])) with
              | none => exact .inl rfl
              | some it =>
                right
                have : ¬ acc.length < 4000 := fun h => hok ⟨it, hx, h⟩
                omega)
          clear HH hr hmm hb hscr hrow hS hst C hcell hSet hnS hVr hlk hfn hmc hok
          go_wp2_with (go_at_call 23; with_reducible refine C2.out.mono ?_)
          rintro e w2 ⟨⟨te, pe, rfl⟩, hb2, hs2⟩
          have HB2 := hid hb2
          obtain ⟨d0, d1, d2, g0, g1, g2⟩ := three_cc hs2
          have dl := lt_of_block hs2
          clear hb2 hs2
          go_wp2
          go_ret
          exact ⟨.inr ⟨c, w2.heap.size, .iface te pe, Q.out, rfl, heap_alloc_new _ _⟩, HB2.out.alloc (Nat.le_trans hB HB2.out.size) _⟩
      · cases h
end Go.Proofs.YtcdcjpejlhcdnaaDoor
