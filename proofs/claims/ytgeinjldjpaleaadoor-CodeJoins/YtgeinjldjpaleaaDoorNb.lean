/-
  Lists of words; code.readWord.
-/
import Derived.Test.YtgeinjldjpaleaaDoorNa
namespace Go.Proofs.YtgeinjldjpaleaaDoor
open Go.RowKit

/-- Words. -/
def KS : Kind ByteArray := ⟨fun s => [.string s], 1, 9, 47, 16, ⟨#[]⟩⟩
theorem ks : KS.Ok := by
  refine ⟨fun _ => rfl, fun x u hu => ?_, by decide, by decide, Tryd.underlying47, ?_⟩
  · simp only [KS, List.mem_singleton] at hu; subst hu; rfl
  · obtain ⟨i, hi, h0, h1, h2⟩ := info_parts (show (Tryd.prog.info? 9).map (fun i => (i.zero, i.size, i.bytes)) = some (some (.string ⟨#[]⟩), 1, 16) by kernel_rfl)
    exact ⟨i, _, hi, h0, h1, h2, rfl⟩
theorem Lies.word {w : World} {b off : Nat} {xs : List ByteArray} (h : Lies KS w b off xs) {j : Nat} (hj : j < xs.length) : w.cell? ⟨b, off + j, none⟩ = some (.string (xs.getD j ⟨#[]⟩)) := by
  have := h j 0 (.string (xs.getD j ⟨#[]⟩)) hj rfl
  simpa [KS] using this

/-- What is read of the first of some words, by its kind. -/
def digsOf (k : Nat) (ws : List ByteArray) : ByteArray := ⟨(Lib.trimPrefix (ws.getD 0 ⟨#[]⟩).data.toList (lt k).data.toList).toArray⟩
def wordN (k : Nat) (ws : List ByteArray) : Int := if k = 0 then 0 else if ws.length = 0 then 0 else numOf (digsOf k ws)
def wordB (k : Nat) (ws : List ByteArray) : Bool := if k = 0 then true else if ws.length = 0 then false else (Lib.hasPrefix (ws.getD 0 ⟨#[]⟩).data.toList (lt k).data.toList && numOk (digsOf k ws))
def wordR (k : Nat) (ws : List ByteArray) : List ByteArray := if k = 0 then ws else ws.drop 1

set_option maxRecDepth 100000 in
set_option maxHeartbeats 1000000 in
theorem readWord_none (w : World) (v : Value) (ws : List ByteArray) (h : IsL KS w v ws) :
    Calls Tryd.prog 46 #[.int .i64 0, v] w fun e w' => ∃ a c, e = .returned (.tuple #[.int .i64 0, .slice a ws.length c, .bool true]) ∧ IsL KS w' (.slice a ws.length c) ws ∧ Below w.heap.size w w' := by
  obtain ⟨a, c, rfl⟩ := h.form
  have HH := hide h
  clear h
  go_enter Tryd.func46, Tryd.ntmps46
  go_wp2_with fail
  exact bodyPost_ret (v := .tuple #[.int .i64 0, .slice a ws.length c, .bool true]) (by simp [results, Tryd.results46, go_sem]) rfl ⟨_, _, rfl, unhide HH, Below.refl _ _⟩
set_option maxRecDepth 100000 in
set_option maxHeartbeats 1000000 in
theorem readWord_few (w : World) (v : Value) (h : IsL KS w v []) (k : Nat) (hk0 : 0 < k) :
    Calls Tryd.prog 46 #[.int .i64 k, v] w fun e w' => e = .returned (.tuple #[.int .i64 0, .slice none 0 0, .bool false]) ∧ Below w.heap.size w w' := by
  obtain ⟨a, c, rfl⟩ := h.form
  have k0 : ((k : Int) == 0) = false := by simp; omega
  clear h hk0
  go_enter Tryd.func46, Tryd.ntmps46
  go_wp2_with fail
  exact bodyPost_ret (v := .tuple #[.int .i64 0, .slice none 0 0, .bool false]) (by simp [results, Tryd.results46, go_sem]) rfl ⟨rfl, Below.refl _ _⟩
set_option maxRecDepth 100000 in
set_option maxHeartbeats 1000000 in
theorem readWord_one (w : World) (ht : Tabs w) (hl : Libs w) (v : Value) (ws : List ByteArray) (h : IsL KS w v ws) (k : Nat) (hk0 : 0 < k) (hk9 : k < 9) (hn : 0 < ws.length) (hs : (ws.getD 0 ⟨#[]⟩).size ≤ 1000000) (hm : ws.length ≤ 1000000) :
    Calls Tryd.prog 46 #[.int .i64 k, v] w fun e w' => ∃ a c, e = .returned (.tuple #[.int .i64 (numOf (digsOf k ws)), .slice a (ws.length - 1) c, .bool (Lib.hasPrefix (ws.getD 0 ⟨#[]⟩).data.toList (lt k).data.toList && numOk (digsOf k ws))]) ∧ IsL KS w' (.slice a (ws.length - 1) c) (ws.drop 1) ∧ Below w.heap.size w w' := by
  obtain ⟨b, o, c, rfl, hb, l0⟩ := h.at ks hn
  have hfit := h.fits
  have HH := hide h
  have c0 := l0.word hn
  have t0 := ht.let' k hk9
  rw [Nat.add_zero] at c0
  obtain ⟨n, en⟩ : ∃ n, ws.length = n := ⟨_, rfl⟩
  rw [en] at hn hm hfit HH ⊢
  have HN := hide en
  have hD : (digsOf k ws).size ≤ 1000000 := Nat.le_trans (Lib.trimPrefix_le _ _) hs
  have HNM := hide fun W (hW : Below w.heap.size w W) => readNumber_any W (hl.below hW) (digsOf k ws) hD
  have HCP := hide fun W => Tryd.strings_CutPrefix (ws.getD 0 ⟨#[]⟩) (lt k) W
  have eD : (⟨(Lib.trimPrefix (ws.getD 0 ⟨#[]⟩).data.toList (lt k).data.toList).toArray⟩ : ByteArray) = digsOf k ws := rfl
  rw [eD] at HCP
  obtain ⟨s, es⟩ : ∃ s, ws.getD 0 ⟨#[]⟩ = s := ⟨_, rfl⟩
  obtain ⟨L, eL⟩ : ∃ s, lt k = s := ⟨_, rfl⟩
  obtain ⟨DD, eDD⟩ : ∃ s, digsOf k ws = s := ⟨_, rfl⟩
  obtain ⟨B, eB⟩ : ∃ x, Lib.hasPrefix s.data.toList L.data.toList = x := ⟨_, rfl⟩
  rw [es] at c0 HCP; rw [eL] at t0 HCP; rw [eDD] at HCP HNM; rw [es, eL, eDD, eB]
  rw [eB] at HCP
  have k0 : ((k : Int) == 0) = false := by simp; omega
  have n0 : ((n : Int) == 0) = false := by simp; omega
  have g0 : (0 : Int) ≤ (k : Int) := by omega
  have g1 : (k : Int) < 9 := by omega
  have g2 : (0 : Int) < (n : Int) := by omega
  clear h ht hl l0 es eL eDD eB eD hD en
  go_enter Tryd.func46, Tryd.ntmps46
  go_upto_region 5 with fail
  have HSS : Hid (∀ W : World, W.heap = w.heap → W.cell? ⟨b, o, none⟩ = some (.string s) ∧ W.cell? ⟨3, k, none⟩ = some (.string L) ∧ W.heap = w.heap) := fun W hW => ⟨by rw [World.cell?_of_block (w := w) (by rw [hW])]; exact c0, by rw [World.cell?_of_block (w := w) (by rw [hW])]; exact t0, hW⟩
  go_region_held3 (fun W => W.cell? ⟨b, o, none⟩ = some (.string s) ∧ W.cell? ⟨3, k, none⟩ = some (.string L) ∧ W.heap = w.heap)
    (first | with_reducible exact unhide HSS _ rfl | with_reducible assumption)
    (first | (go_at_call 53; refine (unhide HCP _).mono ?_; rintro e w5 ⟨rfl, rfl⟩))
  all_goals
    go_upto_region 7 with (go_at_call 54; refine (unhide HNM _ (Below.refl _ _).drew).mono ?_; rintro e w6 ⟨rfl, b6⟩; have HB6 : Hid (Below w.heap.size w w6) := Below.next (Below.refl _ _).drew b6 (Nat.le_refl _); clear b6)
    by_cases hc1 : c = 1
    · subst hc1
      obtain rfl : n = 1 := by omega
      cases B
      · go_region
        go_wp2_with fail
        exact bodyPost_ret (v := .tuple #[.int .i64 (numOf DD), .slice (some ⟨b, o, none⟩) (1 - 1) (1 - 1), .bool (false && numOk DD)]) (by simp [results, Tryd.results46, go_sem]) rfl ⟨_, _, rfl, (IsL.drop_if ks ((unhide HH).below (unhide HB6)) (p := 1) (by omega) (by simp)).below (Below.refl _ _).drew, (unhide HB6).drew⟩
      · go_region
        go_wp2_with fail
        exact bodyPost_ret (v := .tuple #[.int .i64 (numOf DD), .slice (some ⟨b, o, none⟩) (1 - 1) (1 - 1), .bool (true && numOk DD)]) (by simp [results, Tryd.results46, go_sem]) rfl ⟨_, _, rfl, (IsL.drop_if ks ((unhide HH).below (unhide HB6)) (p := 1) (by omega) (by simp)).below (Below.refl _ _).drew, (unhide HB6).drew⟩
    · cases B
      · go_region
        go_wp2_with fail
        exact bodyPost_ret (v := .tuple #[.int .i64 (numOf DD), .slice (some ⟨b, o + 1, none⟩) (n - 1) (c - 1), .bool (false && numOk DD)]) (by simp [results, Tryd.results46, go_sem]) rfl ⟨_, _, rfl, (IsL.drop_if ks ((unhide HH).below (unhide HB6)) (p := 1) (by omega) (by simp [KS, hc1])).below (Below.refl _ _).drew, (unhide HB6).drew⟩
      · go_region
        go_wp2_with fail
        exact bodyPost_ret (v := .tuple #[.int .i64 (numOf DD), .slice (some ⟨b, o + 1, none⟩) (n - 1) (c - 1), .bool (true && numOk DD)]) (by simp [results, Tryd.results46, go_sem]) rfl ⟨_, _, rfl, (IsL.drop_if ks ((unhide HH).below (unhide HB6)) (p := 1) (by omega) (by simp [KS, hc1])).below (Below.refl _ _).drew, (unhide HB6).drew⟩
theorem readWord_any (w : World) (ht : Tabs w) (hl : Libs w) (v : Value) (ws : List ByteArray) (h : IsL KS w v ws) (k : Nat) (hk9 : k < 9) (hs : (ws.getD 0 ⟨#[]⟩).size ≤ 1000000) (hm : ws.length ≤ 1000000) :
    Calls Tryd.prog 46 #[.int .i64 k, v] w fun e w' => ∃ a c, e = .returned (.tuple #[.int .i64 (wordN k ws), .slice a (wordR k ws).length c, .bool (wordB k ws)]) ∧ IsL KS w' (.slice a (wordR k ws).length c) (wordR k ws) ∧ Below w.heap.size w w' := by
  unfold wordN wordB wordR
  by_cases hk0 : k = 0
  · subst hk0
    simp only [if_true]
    exact readWord_none w v ws h
  · rw [if_neg hk0, if_neg hk0, if_neg hk0]
    by_cases hn : ws.length = 0
    · obtain rfl : ws = [] := List.eq_nil_of_length_eq_zero hn
      rw [if_pos hn, if_pos hn]
      refine (readWord_few w v h k (by omega)).mono ?_
      rintro e w' ⟨rfl, hb⟩
      exact ⟨none, 0, rfl, isl_nil _, hb⟩
    · rw [if_neg hn, if_neg hn, List.length_drop]
      exact readWord_one w ht hl v ws h k (by omega) hk9 (by omega) hs hm

end Go.Proofs.YtgeinjldjpaleaaDoor
