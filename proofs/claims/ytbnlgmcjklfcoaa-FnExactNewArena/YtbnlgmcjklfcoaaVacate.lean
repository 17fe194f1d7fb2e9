/- The walk of impl.ground's vacate: a place is written anew, empty and free. -/
import Derived.Test.YtbnlgmcjklfcoaaArenaNone
import Derived.Test.YtbnlgmcjklfcoaaReadNil
namespace Go.Proofs.Ytbnlgmcjklfcoaa
open Go.RowKit

/-- An empty place's cells. -/
def vacPlace (d : Int) : Array Value := #[.iface (hty 0) (.agg #[.int .i64 d, .slice none 0 0, .int .i64 0, .int .i64 0, .int .i64 (-1)]), .bool true, .slice none 0 0]
theorem holderFrom_vac (d : Int) (w : World) : Calls Try.prog 147 #[.agg #[.int .i64 0, .int .i64 0, .int .i64 (-1), .slice none 0 0], .int .i64 d] w fun e w' => e = .returned (.iface (hty 0) (.agg #[.int .i64 d, .slice none 0 0, .int .i64 0, .int .i64 0, .int .i64 (-1)])) ∧ Below w.heap.size w w' := holderFrom_nil 0 0 (-1) d 0 none w

set_option maxRecDepth 100000 in
set_option maxHeartbeats 3200000 in
theorem vacate_any (d : Int) (G pb cp n j pg : Nat) (v0 v1 v2 m o : Value) (w : World) (hG : Lies w G 178 #[.int .i64 d, .slice (some ⟨pb, 0, none⟩) n cp, m, o]) (hc : w.cell? ⟨pb, j, none⟩ = some (.pointer (some ⟨pg, 0, none⟩))) (hp : Lies w pg 181 #[v0, v1, v2]) (h1 : pg ≠ G) (h2 : pg ≠ pb) (hj : j < n) (hn : n ≤ 40) :
    Calls Try.prog 123 #[.pointer (some ⟨G, 0, none⟩), .int .i64 (j : Int)] w fun e w' => e = .returned noResult ∧ Turned (fun x => x = pg) w w' ∧ Lies w' pg 181 (vacPlace d) := by
  have HG := Lib.hid hG
  have HP := Lib.hid hp
  have hpb : pb < w.heap.size := by
    rcases Nat.lt_or_ge pb w.heap.size with h' | h'
    · exact h'
    · have : w.heap[pb]? = none := Array.getElem?_eq_none h'
      simp [World.cell?, this] at hc
  have hj' : (j : Int) < (n : Int) := by omega
  have n1 : ¬ pg = G := h1
  have n2 : ¬ pg = pb := h2
  have n3 : ¬ G = pg := fun e => h1 e.symm
  have n4 : ¬ pb = pg := fun e => h2 e.symm
  have k_0 : w.cell? ⟨G, 1, none⟩ = some (.slice (some ⟨pb, 0, none⟩) n cp) ∧ w.cell? ⟨pb, j, none⟩ = some (.pointer (some ⟨pg, 0, none⟩)) ∧ w.cell? ⟨G, 0, none⟩ = some (.int .i64 d) := ⟨hG.cell 1, hc, hG.cell 0⟩
  clear hG hp hc h1 h2
  go_enter Try.func123, Try.ntmps123
  go_wp2
  go_region_held3 (fun w' => w'.cell? ⟨G, 1, none⟩ = some (.slice (some ⟨pb, 0, none⟩) n cp) ∧ w'.cell? ⟨pb, j, none⟩ = some (.pointer (some ⟨pg, 0, none⟩)) ∧ w'.cell? ⟨G, 0, none⟩ = some (.int .i64 d))
    (first | (simp [go_sem, k_0]; done) | with_reducible exact k_1 | with_reducible exact k_2 | (simp [go_sem, k_2, n1, n2, n3, n4]; done))
    (first
      | (go_at_call 159; refine (vacantNode_any _).mono ?_
         rintro e W1 ⟨rfl, b1d⟩
         have b1 := below_drawn b1d
         have k_1 : W1.cell? ⟨G, 1, none⟩ = some (.slice (some ⟨pb, 0, none⟩) n cp) ∧ W1.cell? ⟨pb, j, none⟩ = some (.pointer (some ⟨pg, 0, none⟩)) ∧ W1.cell? ⟨G, 0, none⟩ = some (.int .i64 d) := ⟨(HG.out.kept b1 HG.out.inside).cell 1, (b1.cell (p := ⟨pb, j, none⟩) hpb).trans k_0.2.1, (HG.out.kept b1 HG.out.inside).cell 0⟩
         clear b1d)
      | (go_at_call 147; refine (holderFrom_vac d _).mono ?_
         rintro e W2 ⟨rfl, b2⟩
         have b2' := b1.trans (b2.mono b1.size)
         have HP2 := Lib.hid (HP.out.kept b2' HP.out.inside)
         have k_2 : W2.cell? ⟨G, 1, none⟩ = some (.slice (some ⟨pb, 0, none⟩) n cp) ∧ W2.cell? ⟨pb, j, none⟩ = some (.pointer (some ⟨pg, 0, none⟩)) ∧ W2.cell? ⟨G, 0, none⟩ = some (.int .i64 d) := ⟨(HG.out.kept b2' HG.out.inside).cell 1, (b2'.cell (p := ⟨pb, j, none⟩) hpb).trans k_0.2.1, (HG.out.kept b2' HG.out.inside).cell 0⟩
         have s0 : W2.cell? ⟨pg, 0, none⟩ = some v0 := HP2.out.cell 0
         have s1 : W2.cell? ⟨pg, 1, none⟩ = some v1 := HP2.out.cell 1
         have s2 : W2.cell? ⟨pg, 2, none⟩ = some v2 := HP2.out.cell 2
         have f0 : W2.frozen? ⟨pg, 0, none⟩ = false := HP2.out.thawed 0
         have f1 : W2.frozen? ⟨pg, 1, none⟩ = false := HP2.out.thawed 1
         have f2 : W2.frozen? ⟨pg, 2, none⟩ = false := HP2.out.thawed 2
         clear b2))
  all_goals
    have LV := Lib.hid (((HP2.out.set 0 (.iface (hty 0) (.agg #[.int .i64 d, .slice none 0 0, .int .i64 0, .int .i64 0, .int .i64 (-1)]))).set 1 (.bool true)).set 2 (.slice none 0 0))
    have TT := Lib.hid (((((Turned.of_below (G := fun x => x = pg) b2').setCell (a := ⟨pg, 0, none⟩) rfl (.iface (hty 0) (.agg #[.int .i64 d, .slice none 0 0, .int .i64 0, .int .i64 0, .int .i64 (-1)]))).setCell (a := ⟨pg, 1, none⟩) rfl (.bool true)).setCell (a := ⟨pg, 2, none⟩) rfl (.slice none 0 0)))
    go_wp2
    go_end0
    exact ⟨rfl, TT.out, LV.out⟩

end Go.Proofs.Ytbnlgmcjklfcoaa
