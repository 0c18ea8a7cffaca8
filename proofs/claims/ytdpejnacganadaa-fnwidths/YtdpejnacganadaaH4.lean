import Derived.Test.YtdpejnacganadaaH3
import Derived.Test.YtdpejnacganadaaD7
namespace Go.Proofs.Ytdpejnacganadaa
open Go.RowKit Go.Sort

theorem ents30 : ∀ (args : Array Value) (w : World), (callFunc 30 args).run Try.prog w = .ok (.enter 30 args) w := enter_of (f := 30) Try.func30 (by kernel_rfl) rfl

set_option maxHeartbeats 800000 in
/-- Exec's closure lifts the list and lays the nodes. -/
theorem execLit_yes (ao : Option Addr) (n c : Nat) (ss : List StmD) (o s t v : Int) (nodes : List Value) (tb h0 h1 : Nat) (V : World) (hn : n ≤ 9223372036854775807) (hs : StmsOf V ao n ss)
    (d0 : V.heap[h0]? = some (.cells #[.slice ao n c] 36 (0, 0))) (d1 : V.heap[h1]? = some (.cells #[.int .i64 o, .int .i64 s, .int .i64 t, .int .i64 v] 51 (0, 0))) (d2 : V.heap[tb]? = some (.cells #[.slice none 0 0] 62 (0, 0))) (hl : liftAll ⟨o, s, t, v⟩ ss = some nodes) :
    Calls Try.prog 30 #[.pointer (some ⟨h0, 0, none⟩), .pointer (some ⟨h1, 0, none⟩), .pointer (some ⟨tb, 0, none⟩)] V fun e w' => e = .returned (.tuple #[]) ∧ (∃ val, w'.heap[tb]? = some (.cells #[val] 62 (0, 0)) ∧ w'.ownsRow (V.heap.size + 1) 103 1 val nodes.length nodes) ∧ Away tb V w' := by
  have c0 := cell_of_one d0
  obtain ⟨e0, e1, e2, e3⟩ := quad_cells d1
  have H := hid (liftStms_any ao n c ss o s t v V hn hs)
  rw [hl] at H
  unfold StmsEnd at H
  simp only at H
  have D2 := hid d2
  clear hs hl d0 d1 d2
  go_enter Try.func30, Try.ntmps30
  go_wp2_with (go_at_call 31; refine H.out.mono ?_; rintro e w1 ⟨⟨val, rfl, ho⟩, hb⟩; have HB := hid hb; have HO := hid ho; have b2 := block_below D2.out hb; have e2 := cell_of_one b2; have f2 := free_of_one b2; have B2 := hid b2; have hlt := lt_of_block D2.out; obtain ⟨ao5, m5, cap5, hnv⟩ : ∃ ao5 m5 cap5, val = .slice ao5 m5 cap5 := (by rcases ho.2 with ⟨h, _⟩ | ⟨g, cap, cur, h, _⟩ <;> exact ⟨_, _, _, h⟩); subst hnv; clear hb b2 ho)
  go_end0
  exact ⟨rfl, ⟨_, one_setCell B2.out, ownsRow_setCell_below HO.out (show tb < _ by omega) _⟩, (Away.of_below HB.out).trans (Away.set _ _ _ _)⟩
end Go.Proofs.Ytdpejnacganadaa
