/-
  taskmilllaw.OrderClocks: its early ends, and its walk.
-/
import Derived.Test.YtbnmeeabpjmcoaaZq
import Derived.Test.YtbnmeeabpjmcoaaZr
import Derived.Test.YtbnmeeabpjmcoaaZs
namespace Go.Proofs.Ytbnmeeabpjmcoaa
open Go.RowKit

set_option maxRecDepth 100000 in
set_option maxHeartbeats 4000000 in
theorem oc_mid (w : World) (a0 : Option Addr) (n0 c0 : Nat) (a1 : Option Addr) (n1 c1 : Nat) (zi zk : Int) (h : 300 < n0) (h2 : n0 < 2000) :
    Calls Try.prog 3 #[.slice a0 n0 c0, .slice a1 n1 c1, .int .i64 zi, .int .i64 zk] w fun e w' => e = .returned (.bool true) ∧ Below w.heap.size w w' := by
  have d1 : (300 : Int) < (n0 : Int) := by omega
  have d2 : (n0 : Int) < 2000 := by omega
  go_enter Try.func3, Try.ntmps3
  go_wp2_with (go_at_call 9; (with_reducible refine Calls.mono (begun_any _) ?_); rintro e w1 ⟨rfl, hb1⟩; have HX1 := hide hb1; clear hb1)
  go_ret
  exact ⟨rfl, unhide HX1⟩

set_option maxRecDepth 100000 in
set_option maxHeartbeats 4000000 in
theorem oc_vast (w : World) (a0 : Option Addr) (n0 c0 : Nat) (a1 : Option Addr) (n1 c1 : Nat) (zi zk : Int) (h : 3000 < n0) :
    Calls Try.prog 3 #[.slice a0 n0 c0, .slice a1 n1 c1, .int .i64 zi, .int .i64 zk] w fun e w' => e = .returned (.bool true) ∧ Below w.heap.size w w' := by
  have d1 : (300 : Int) < (n0 : Int) := by omega
  have d2 : ¬ (n0 : Int) < 2000 := by omega
  have d3 : (3000 : Int) < (n0 : Int) := by omega
  go_enter Try.func3, Try.ntmps3
  go_wp2_with (go_at_call 9; (with_reducible refine Calls.mono (begun_any _) ?_); rintro e w1 ⟨rfl, hb1⟩; have HX1 := hide hb1; clear hb1)
  go_ret
  exact ⟨rfl, unhide HX1⟩

set_option maxRecDepth 100000 in
set_option maxHeartbeats 4000000 in
theorem oc_pipes_big (w : World) (a0 : Option Addr) (n0 c0 : Nat) (a1 : Option Addr) (n1 c1 : Nat) (zi zk : Int) (_h : 300 < n0) (h2 : ¬ n0 < 2000) (h3 : ¬ 3000 < n0) (h4 : 100 < n1) :
    Calls Try.prog 3 #[.slice a0 n0 c0, .slice a1 n1 c1, .int .i64 zi, .int .i64 zk] w fun e w' => e = .returned (.bool true) ∧ Below w.heap.size w w' := by
  have d1 : (300 : Int) < (n0 : Int) := by omega
  have d2 : ¬ (n0 : Int) < 2000 := by omega
  have d3 : ¬ (3000 : Int) < (n0 : Int) := by omega
  have d4 : (100 : Int) < (n1 : Int) := by omega
  go_enter Try.func3, Try.ntmps3
  go_wp2_with (go_at_call 9; (with_reducible refine Calls.mono (begun_any _) ?_); rintro e w1 ⟨rfl, hb1⟩; have HX1 := hide hb1; clear hb1)
  go_ret
  exact ⟨rfl, unhide HX1⟩

set_option maxRecDepth 100000 in
set_option maxHeartbeats 4000000 in
theorem oc_pipes_small (w : World) (a0 : Option Addr) (n0 c0 : Nat) (a1 : Option Addr) (n1 c1 : Nat) (zi zk : Int) (h : ¬ 300 < n0) (h4 : 100 < n1) :
    Calls Try.prog 3 #[.slice a0 n0 c0, .slice a1 n1 c1, .int .i64 zi, .int .i64 zk] w fun e w' => e = .returned (.bool true) ∧ Below w.heap.size w w' := by
  have d1 : ¬ (300 : Int) < (n0 : Int) := by omega
  have d3 : ¬ (3000 : Int) < (n0 : Int) := by omega
  have d4 : (100 : Int) < (n1 : Int) := by omega
  go_enter Try.func3, Try.ntmps3
  go_wp2_with (go_at_call 9; (with_reducible refine Calls.mono (begun_any _) ?_); rintro e w1 ⟨rfl, hb1⟩; have HX1 := hide hb1; clear hb1)
  go_ret
  exact ⟨rfl, unhide HX1⟩

theorem clocks_walk (w : World) (v0 : Value) (l : List Ev) (v1 : Value) (hs : List Int) (z2 z3 : Int) (hl : IsL KE w v0 l) (_ml : l.length * 32 ≤ 140737488355328) (hh : IsL KI w v1 hs) (_mh : hs.length * 8 ≤ 140737488355328) :
    Calls Try.prog 3 #[v0, v1, .int .i64 z2, .int .i64 z3] w fun e w' => e = .returned (.bool true) ∧ Below w.heap.size w w' := by
  obtain ⟨a0, c0, rfl⟩ := hl.form
  obtain ⟨a1, c1, rfl⟩ := hh.form
  by_cases h2 : 3000 < l.length
  · exact oc_vast w a0 _ c0 a1 _ c1 z2 z3 h2
  · by_cases h1 : 300 < l.length
    · by_cases h1b : l.length < 2000
      · exact oc_mid w a0 _ c0 a1 _ c1 z2 z3 h1 h1b
      · by_cases h3 : 100 < hs.length
        · exact oc_pipes_big w a0 _ c0 a1 _ c1 z2 z3 h1 h1b h2 h3
        · skip
          obtain ⟨⟨fc, fa⟩, hf⟩ : ∃ X, checkF hs l = X := ⟨_, rfl⟩
          by_cases hfc : fc = 0
          · have hg : GoodT hs l := good_of (by rw [hf]; exact hfc)
            by_cases z1 : z2 < 0
            · exact oc_out1_big w a0 _ c0 a1 _ c1 l hs hl hh h1 h1b h2 h3 hg z2 z3 z1
            · by_cases z4 : (l.length : Int) ≤ z2
              · exact oc_out2_big w a0 _ c0 a1 _ c1 l hs hl hh h1 h1b h2 h3 hg z2 z3 z1 z4
              · by_cases z5 : z3 < 0
                · exact oc_out3_big w a0 _ c0 a1 _ c1 l hs hl hh h1 h1b h2 h3 hg z2 z3 z1 z4 z5
                · by_cases z6 : (l.length : Int) ≤ z3
                  · exact oc_out4_big w a0 _ c0 a1 _ c1 l hs hl hh h1 h1b h2 h3 hg z2 z3 z1 z4 z5 z6
                  · obtain ⟨i, rfl⟩ : ∃ i : Nat, z2 = (i : Int) := ⟨z2.toNat, by omega⟩
                    obtain ⟨k, rfl⟩ : ∃ i : Nat, z3 = (i : Int) := ⟨z3.toNat, by omega⟩
                    exact oc_in_big w a0 _ c0 a1 _ c1 l hs hl hh h1 h1b h2 h3 hg i k (by omega) (by omega)
          · exact oc_fault_big w a0 _ c0 a1 _ c1 l hs hl hh h1 h1b h2 h3 fc fa hf hfc z2 z3
    · by_cases h3 : 100 < hs.length
      · exact oc_pipes_small w a0 _ c0 a1 _ c1 z2 z3 h1 h3
      · skip
        obtain ⟨⟨fc, fa⟩, hf⟩ : ∃ X, checkF hs l = X := ⟨_, rfl⟩
        by_cases hfc : fc = 0
        · have hg : GoodT hs l := good_of (by rw [hf]; exact hfc)
          by_cases z1 : z2 < 0
          · exact oc_out1_small w a0 _ c0 a1 _ c1 l hs hl hh h1 h2 h3 hg z2 z3 z1
          · by_cases z4 : (l.length : Int) ≤ z2
            · exact oc_out2_small w a0 _ c0 a1 _ c1 l hs hl hh h1 h2 h3 hg z2 z3 z1 z4
            · by_cases z5 : z3 < 0
              · exact oc_out3_small w a0 _ c0 a1 _ c1 l hs hl hh h1 h2 h3 hg z2 z3 z1 z4 z5
              · by_cases z6 : (l.length : Int) ≤ z3
                · exact oc_out4_small w a0 _ c0 a1 _ c1 l hs hl hh h1 h2 h3 hg z2 z3 z1 z4 z5 z6
                · obtain ⟨i, rfl⟩ : ∃ i : Nat, z2 = (i : Int) := ⟨z2.toNat, by omega⟩
                  obtain ⟨k, rfl⟩ : ∃ i : Nat, z3 = (i : Int) := ⟨z3.toNat, by omega⟩
                  exact oc_in_small w a0 _ c0 a1 _ c1 l hs hl hh h1 h2 h3 hg i k (by omega) (by omega)
        · exact oc_fault_small w a0 _ c0 a1 _ c1 l hs hl hh h1 h2 h3 fc fa hf hfc z2 z3
end Go.Proofs.Ytbnmeeabpjmcoaa
