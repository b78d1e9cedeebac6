/-
  taskmilllaw.CodeJoins.
-/
import Derived.Test.YtgeinjldjpaleaaDoorPb
import Derived.Test.YtgeinjldjpaleaaDoorL
import Derived.Test.YtgeinjldjpaleaaDoorDa
namespace Go.Proofs.YtgeinjldjpaleaaDoor
open Go.RowKit
set_option maxRecDepth 100000 in
set_option maxHeartbeats 1000000 in
theorem joins_long (w : World) (ht : Tabs w) (a b : ByteArray) (ha : a.size ≤ 140737488355328) (hb : b.size ≤ 140737488355328) (h : 20000 < a.size + b.size) :
    Calls Tryd.prog 6 #[.string a, .string b] w fun e w' => e = .returned (.bool true) ∧ Below w.heap.size w w' := by
  have HBG := hide (begun_any w ht)
  have j1 : (20000 : Int) < (a.size : Int) + (b.size : Int) := by omega
  clear ht h
  go_enter Tryd.func6, Tryd.ntmps6
  go_wp2_with (go_at_call 7; refine (unhide HBG).mono ?_; rintro e w1 ⟨rfl, b1⟩; have HX1 := hide b1; clear b1)
  go_ret
  exact ⟨rfl, unhide HX1⟩
set_option maxRecDepth 100000 in
set_option maxHeartbeats 1000000 in
theorem joins_fine (w : World) (ht : Tabs w) (hl : Libs w) (a b : ByteArray) (h : ¬ 20000 < a.size + b.size) (XL YL : List In) (hXY : (XL ++ YL).length ≤ 20000) (eX : parseL (a.size + 1) a.data.toList [] 0 = (XL, (0, 0))) (eY : parseL (b.size + 1) b.data.toList [] 0 = (YL, (0, 0))) (eZ : parseL ((a ++ b).size + 1) (a ++ b).data.toList [] 0 = (XL ++ YL, (0, 0))) :
    Calls Tryd.prog 6 #[.string a, .string b] w fun e w' => e = .returned (.bool true) ∧ Below w.heap.size w w' := by
  have HBG := hide (begun_any w ht)
  have hab : (a ++ b).size = a.size + b.size := by simp
  have HPA := hide fun W (hW : Below w.heap.size w W) => parse_ok W (ht.below hW) (hl.below hW) a (by omega)
  have HPB := hide fun W (hW : Below w.heap.size w W) => parse_ok W (ht.below hW) (hl.below hW) b (by omega)
  have HPC := hide fun W (hW : Below w.heap.size w W) => parse_ok W (ht.below hW) (hl.below hW) (a ++ b) (by omega)
  rw [eX] at HPA
  rw [eY] at HPB
  rw [eZ] at HPC
  simp only at HPA HPB HPC
  have j1 : ¬ (20000 : Int) < (a.size : Int) + (b.size : Int) := by omega
  rw [List.length_append] at hXY
  have hx1 : XL.length ≤ 20000 := by omega
  clear ht hl eX eY eZ h hab
  go_enter Tryd.func6, Tryd.ntmps6
  go_upto_region 5 with (go_at_call 7; refine (unhide HBG).mono ?_; rintro e w1 ⟨rfl, b1⟩; have HX1 := hide b1; clear b1)
  go_upto_region 6 with (go_at_call 17; refine (unhide HPA _ (unhide HX1)).mono ?_; rintro e w2 ⟨a2, c2, rfl, hx2, b2⟩; have HX2 := hide ((unhide HX1).trans (b2.mono (unhide HX1).size)); have HV2 := hide hx2; clear b2 hx2)
  obtain ⟨W3, e3, b3, z3⟩ := one_new w2 (.cells #[.int .i64 0, .int .i64 0] 31)
  rw [e3]
  have HX3 := hide ((unhide HX2).trans (b3.mono (unhide HX2).size)); have HV3 := hide ((unhide HV2).below b3); have HF3 := hide z3
  obtain ⟨B1, eB1⟩ : ∃ X, w2.heap.size = X := ⟨_, rfl⟩
  rw [eB1] at HF3 ⊢
  clear e3 b3 z3 eB1 HX2 HV2 HX1 HBG HPA
  go_upto_region 7 with (go_at_call 17; refine (unhide HPB _ (unhide HX3)).mono ?_; rintro e w4 ⟨a4, c4, rfl, hx4, b4⟩; have HX4 := hide ((unhide HX3).trans (b4.mono (unhide HX3).size)); have HY4 := hide hx4; have HV4 := hide ((unhide HV3).below b4); have HF4 := hide (keep_below (unhide HF3) b4); clear b4 hx4 HX3 HV3 HF3)
  obtain ⟨W5, e5, b5, z5⟩ := one_new w4 (.cells #[.int .i64 0, .int .i64 0] 31)
  rw [e5]
  have HX5 := hide ((unhide HX4).trans (b5.mono (unhide HX4).size)); have HV5 := hide ((unhide HV4).below b5); have HY5 := hide ((unhide HY4).below b5); have HF5 := hide (keep_below (unhide HF4) b5); have HG5 := hide z5
  obtain ⟨B2, eB2⟩ : ∃ X, w4.heap.size = X := ⟨_, rfl⟩
  rw [eB2] at HG5 ⊢
  clear e5 b5 z5 eB2 HX4 HV4 HF4 HY4 HPB
  go_upto_region 8 with (go_at_call 17; refine (unhide HPC _ (unhide HX5)).mono ?_; rintro e w6 ⟨a6, c6, rfl, hx6, b6⟩; have HX6 := hide ((unhide HX5).trans (b6.mono (unhide HX5).size)); have HZ6 := hide hx6; have HY6 := hide ((unhide HY5).below b6); have HV6 := hide ((unhide HV5).below b6); have HF6 := hide (keep_below (unhide HF5) b6); have HG6 := hide (keep_below (unhide HG5) b6); clear b6 hx6 HX5 HV5 HF5 HY5 HG5 HPC)
  obtain ⟨W7, e7, b7, z7⟩ := one_new w6 (.cells #[.int .i64 0, .int .i64 0] 31)
  rw [e7]
  have HX7 := hide ((unhide HX6).trans (b7.mono (unhide HX6).size)); have HV7 := hide ((unhide HV6).below b7); have HY7 := hide ((unhide HY6).below b7); have HZ7 := hide ((unhide HZ6).below b7)
  obtain ⟨f0, f1, -, -, fl⟩ := block2 (keep_below (unhide HF6) b7)
  obtain ⟨g0, g1, -, -, gl⟩ := block2 (keep_below (unhide HG6) b7)
  obtain ⟨h0, h1, -, -, hl1⟩ := block2 z7
  clear e7 b7 z7 HX6 HV6 HY6 HZ6 HF6 HG6
  go_wp2_with (first
    | (go_at_call 21; refine (ownCode_any _ _ XL (unhide HV7) (by omega)).mono ?_; rintro e w8 ⟨a8, c8, rfl, ho8, b8⟩; have HO8 := hide ho8; have HB8 := hide b8; have HY8 := hide ((unhide HY7).below b8); have HZ8 := hide ((unhide HZ7).below b8); have HX8 := hide ((unhide HX7).trans (b8.mono (unhide HX7).size)); clear ho8 b8)
    | (at_builtin; refine wpList_append kc rfl (.tmp 88) (.tmp 89) rfl W7.heap.size _ XL rfl (unhide HO8) _ YL rfl (unhide HY8) (XL.length + YL.length) rfl (by show (XL.length + YL.length) * 24 ≤ _; omega) (unhide HB8).size ?_; intro a9 c9 w9 ho hg; have HO9 := hide ho; have HG9 := hide hg; clear ho hg))
  have h79 : Below W7.heap.size W7 w9 := Below.grown (unhide HB8) (unhide HG9) (unhide HB8).size (fun k hk => ((unhide HO8).lt k hk).1)
  have hz9 : IsL KC w9 (.slice a6 (XL.length + YL.length) c6) (XL ++ YL) := by have := (unhide HZ7).below h79; rw [List.length_append] at this; exact this
  have HX9 := hide ((unhide HX7).trans (h79.mono (unhide HX7).size))
  refine (code_same w9 _ _ (XL ++ YL) hz9 (unhide HO9).isl (by rw [List.length_append]; unfold maxLen; omega)).mono ?_
  rintro e w10 ⟨rfl, b10⟩
  have HX10 := hide ((unhide HX9).trans (b10.mono (unhide HX9).size))
  clear hz9 h79 b10
  go_wp2_with fail
  go_ret
  exact ⟨rfl, unhide HX10⟩
end Go.Proofs.YtgeinjldjpaleaaDoor
