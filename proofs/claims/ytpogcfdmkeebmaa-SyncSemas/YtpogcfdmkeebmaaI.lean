/-
  sync.checkLine, sync.checkWants.
-/
import Derived.Test.YtpogcfdmkeebmaaH
namespace Go.Proofs.Ytpogcfdmkeebmaa
open Go.RowKit

/-- What is wrong with a line of tasks. -/
def lineF (xs : List Int) : Int × Int := if 5000 < xs.length then (2, 0) else firstC lineP [] xs 0

set_option maxRecDepth 100000 in
set_option maxHeartbeats 2000000 in
theorem checkLine_any (w : World) (v : Value) (xs : List Int) (h : IsL KI w v xs) (hn : xs.length ≤ maxLen) :
    Calls Try.prog 50 #[v] w fun e w' => e = .returned (faultV (lineF xs)) ∧ Below w.heap.size w w' := by
  obtain ⟨a0, c0, rfl⟩ := h.form
  have HL := hide h
  obtain ⟨R, eR⟩ : ∃ R, lineF xs = R := ⟨_, rfl⟩
  rw [eR]
  unfold lineF at eR
  obtain ⟨n, en⟩ : ∃ n, xs.length = n := ⟨_, rfl⟩
  rw [en] at HL hn eR ⊢
  unfold maxLen at hn
  have HN := hide en; have HR := hide eR
  clear h en eR
  have HX := hide ((Below.refl w.heap.size w).alloc (Nat.le_refl _) (.cells #[.int .i64 0, .int .i64 0] 29))
  have HP := hide (new_block w (.cells #[.int .i64 0, .int .i64 0] 29))
  go_enter Try.func50, Try.ntmps50
  go_upto_region 1 with fail
  obtain ⟨W0, e0⟩ : ∃ W, w.alloc (.cells #[.int .i64 0, .int .i64 0] 29) = W := ⟨_, rfl⟩
  rw [e0] at HX HP ⊢
  clear e0
  obtain ⟨p0, p1, f0, f1, pl⟩ := block2 (unhide HP)
  by_cases q1 : 5000 < n
  · have hr := unhide HR
    rw [if_pos q1] at hr
    subst hr
    have j1 : (5000 : Int) < (n : Int) := by omega
    clear HR
    go_wp2_with fail
    exact bodyPost_ret (v := .agg #[.int .i64 2, .int .i64 0]) (by simp [results, Try.results50, go_sem, p0, p1]) rfl ⟨rfl, below_set2 (unhide HX) (Nat.le_refl _) _ _⟩
  · have hr := unhide HR
    rw [if_neg q1] at hr
    have HR2 := hide hr
    have j1 : ¬ (5000 : Int) < (n : Int) := by omega
    clear HR hr
    have hmk := make_set (n : Int) W0
    go_upto_region 4 with fail
    obtain ⟨W2, e2, hB2, k0, k1⟩ := two_new W0 (.map #[] 0) (.cells #[.map (some W0.heap.size)] 89)
    rw [e2]
    clear e2 hmk p0 p1 f0 f1 pl
    have HX2 := hide (Below.next (unhide HX) hB2 (Nat.le_refl _)); have HP2 := hide (keep_below (unhide HP) hB2)
    have hWM : w.heap.size < W0.heap.size := size_of (unhide HP)
    obtain ⟨M, eM⟩ : ∃ M, W0.heap.size = M := ⟨_, rfl⟩
    rw [eM] at k0 k1 hWM ⊢
    have HS2 : Hid (Seen M (M + 1) [] W2) := ⟨k0, k1⟩
    have HF := hide (firstI_any W2 _ xs ((unhide HL).below (unhide HX2)) (by rw [unhide HN]; omega) M #[] 0 k0 58 enters_line #[.pointer (some ⟨M + 1, 0, none⟩)] lineP (fun ks W => Seen M (M + 1) ks W) (fun pre x W _ hW => lineOne_any W M (M + 1) pre x hW) (fun _ _ _ hW hb => hW.below hb) (unhide HS2))
    rw [unhide HR2] at HF
    clear eM hB2 k0 k1 HS2 HX HP
    obtain ⟨p0, p1, f0, f1, pl⟩ := block2 (unhide HP2)
    go_wp2_with (go_at_call 57; refine (unhide HF).mono ?_; rintro e w3 ⟨he, hb3⟩; obtain rfl : e = .returned (.agg #[.int .i64 R.1, .int .i64 R.2]) := he; have HX3 := hide ((unhide HX2).trans (hb3.below (by omega) (unhide HX2).size)); have HP3 := hide (keep_but (unhide HP2) hb3 (by omega)); clear hb3 HX2 HP2 p0 p1 f0 f1 pl; obtain ⟨p0, p1, f0, f1, pl⟩ := block2 (unhide HP3))
    exact bodyPost_ret (v := .agg #[.int .i64 R.1, .int .i64 R.2]) (by simp [results, Try.results50, go_sem, p0, p1]) rfl ⟨rfl, below_set2 (unhide HX3) (Nat.le_refl _) _ _⟩

set_option maxRecDepth 100000 in
set_option maxHeartbeats 2000000 in
theorem checkWants_any (w : World) (v : Value) (xs : List Po) (h : IsL KP w v xs) (hn : xs.length ≤ 100000) :
    Calls Try.prog 61 #[v] w fun e w' => e = .returned (faultV (firstC wantP [] xs 0)) ∧ Below w.heap.size w w' := by
  obtain ⟨a0, c0, rfl⟩ := h.form
  have HL := hide h
  obtain ⟨R, eR⟩ : ∃ R, firstC wantP [] xs 0 = R := ⟨_, rfl⟩
  rw [eR]
  obtain ⟨n, en⟩ : ∃ n, xs.length = n := ⟨_, rfl⟩
  rw [en] at HL hn ⊢
  have HN := hide en; have HR2 := hide eR
  clear h en eR
  have HX := hide ((Below.refl w.heap.size w).alloc (Nat.le_refl _) (.cells #[.int .i64 0, .int .i64 0] 29))
  have HP := hide (new_block w (.cells #[.int .i64 0, .int .i64 0] 29))
  go_enter Try.func61, Try.ntmps61
  go_upto_region 1 with fail
  obtain ⟨W0, e0⟩ : ∃ W, w.alloc (.cells #[.int .i64 0, .int .i64 0] 29) = W := ⟨_, rfl⟩
  rw [e0] at HX HP ⊢
  clear e0
  obtain ⟨p0, p1, f0, f1, pl⟩ := block2 (unhide HP)
  have hmk := make_set (n : Int) W0
  go_upto_region 2 with fail
  obtain ⟨W2, e2, hB2, k0, k1⟩ := two_new W0 (.map #[] 0) (.cells #[.map (some W0.heap.size)] 89)
  rw [e2]
  clear e2 hmk p0 p1 f0 f1 pl
  have HX2 := hide (Below.next (unhide HX) hB2 (Nat.le_refl _)); have HP2 := hide (keep_below (unhide HP) hB2)
  have hWM : w.heap.size < W0.heap.size := size_of (unhide HP)
  obtain ⟨M, eM⟩ : ∃ M, W0.heap.size = M := ⟨_, rfl⟩
  rw [eM] at k0 k1 hWM ⊢
  have HS2 : Hid (Seen M (M + 1) [] W2) := ⟨k0, k1⟩
  have HF := hide (firstW_any W2 _ xs ((unhide HL).below (unhide HX2)) (by rw [unhide HN]; omega) M #[] 0 k0 64 enters_want #[.pointer (some ⟨M + 1, 0, none⟩)] wantP (fun ks W => Seen M (M + 1) (tasks ks) W) (fun pre x W _ hW => wantOne_any W M (M + 1) pre x.1 x.2.1 x.2.2 hW) (fun _ _ _ hW hb => hW.below hb) (unhide HS2))
  rw [unhide HR2] at HF
  clear eM hB2 k0 k1 HS2 HX HP
  obtain ⟨p0, p1, f0, f1, pl⟩ := block2 (unhide HP2)
  go_wp2_with (go_at_call 63; refine (unhide HF).mono ?_; rintro e w3 ⟨he, hb3⟩; obtain rfl : e = .returned (.agg #[.int .i64 R.1, .int .i64 R.2]) := he; have HX3 := hide ((unhide HX2).trans (hb3.below (by omega) (unhide HX2).size)); have HP3 := hide (keep_but (unhide HP2) hb3 (by omega)); clear hb3 HX2 HP2 p0 p1 f0 f1 pl; obtain ⟨p0, p1, f0, f1, pl⟩ := block2 (unhide HP3))
  exact bodyPost_ret (v := .agg #[.int .i64 R.1, .int .i64 R.2]) (by simp [results, Try.results61, go_sem, p0, p1]) rfl ⟨rfl, below_set2 (unhide HX3) (Nat.le_refl _) _ _⟩
end Go.Proofs.Ytpogcfdmkeebmaa
