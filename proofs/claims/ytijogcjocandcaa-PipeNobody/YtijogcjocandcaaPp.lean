/-
  taskmilllaw.PipeNobody.
-/
import Derived.Test.YtijogcjocandcaaPn
namespace Go.Proofs.Ytijogcjocandcaa
open Go.RowKit

set_option maxRecDepth 100000 in
set_option maxHeartbeats 1000000 in
theorem nobody_early (w : World) (cap : Int) (vm : Value) (ms : List Int) (hm : IsL KI w vm ms) (h : cap < 0 ∨ 50 < cap ∨ 300 < ms.length) (hn : ms.length * 8 ≤ 140737488355328) :
    Calls Try.prog 7 #[.int .i64 cap, vm] w fun e w' => e = .returned (.bool true) ∧ Below w.heap.size w w' := by
  have hnot : ∀ (x : Bool) (w : World), (Op.unary .not (.bool x)).run Try.prog w = .ok (.bool (!x)) w := fun _ _ => rfl
  obtain ⟨am, cm, rfl⟩ := hm.form
  generalize ms.length = n at h hn
  clear hm
  by_cases h0 : cap < 0
  · clear h hn
    go_enter Try.func7, Try.ntmps7
    go_wp2_with (go_at_call 9; refine (begun_any _).mono ?_; rintro e w1 ⟨rfl, hb1⟩; have HB := hide hb1; clear hb1)
    go_ret
    exact ⟨rfl, unhide HB⟩
  · by_cases h1 : 50 < cap
    · clear h hn
      go_enter Try.func7, Try.ntmps7
      go_wp2_with (go_at_call 9; refine (begun_any _).mono ?_; rintro e w1 ⟨rfl, hb1⟩; have HB := hide hb1; clear hb1)
      go_ret
      exact ⟨rfl, unhide HB⟩
    · have h2 : (300 : Int) < (n : Int) := by omega
      clear h hn
      go_enter Try.func7, Try.ntmps7
      go_wp2_with (go_at_call 9; refine (begun_any _).mono ?_; rintro e w1 ⟨rfl, hb1⟩; have HB := hide hb1; clear hb1)
      go_ret
      exact ⟨rfl, unhide HB⟩

set_option maxRecDepth 100000 in
set_option maxHeartbeats 2000000 in
theorem nobody_main (w : World) (cap : Int) (vm : Value) (ms : List Int) (hm : IsL KI w vm ms) (h0 : 0 ≤ cap) (h1 : cap ≤ 50) (hn : ms.length ≤ 300) :
    Calls Try.prog 7 #[.int .i64 cap, vm] w fun e w' => e = .returned (.bool true) ∧ Below w.heap.size w w' := by
  have hnot : ∀ (x : Bool) (w : World), (Op.unary .not (.bool x)).run Try.prog w = .ok (.bool (!x)) w := fun _ _ => rfl
  have HPY : Hid (∀ W, Below w.heap.size w W → Calls Try.prog 28 #[.int .i64 cap, vm] W fun e w' => ∃ sent got P a1 c1 a2 c2 vp, e = .returned (.tuple #[.slice a1 sent.length c1, .slice a2 got.length c2, vp, .bool true]) ∧ Inv ms.length cap sent got P ∧ IsL KI w' (.slice a1 sent.length c1) sent ∧ IsL KI w' (.slice a2 got.length c2) got ∧ IsPipe w' vp P ∧ Below W.heap.size W w') := fun W hW => played_any W cap vm ms (hm.below hW) h0 h1 hn
  obtain ⟨am, cm, rfl⟩ := hm.form
  obtain ⟨n, en⟩ : ∃ k, ms.length = k := ⟨_, rfl⟩
  rw [en] at hn HPY ⊢
  clear hm en
  have z0 : ¬ cap < 0 := by omega
  have z1 : ¬ 50 < cap := by omega
  have z2 : ¬ (300 : Int) < (n : Int) := by omega
  go_enter Try.func7, Try.ntmps7
  go_upto_region 6 with (first
    | (go_at_call 9; refine (begun_any _).mono ?_; rintro e w1 ⟨rfl, hb1⟩; have HB1 := hide hb1; clear hb1)
    | (go_at_call 28; refine (unhide HPY _ (unhide HB1)).mono ?_; rintro e w2 ⟨sent, got, P, as_, cs, ag, cg, vp, rfl, hinv, hs, hg, hp, hb2⟩; obtain ⟨pcap, items, closed, ss, gs⟩ := P; obtain ⟨a1, c1, a2, c2, a3, c3, ev, -, -, -⟩ := hp.form; simp only at ev; subst ev; have HI := hide hinv; have HS := hide hs; have HG := hide hg; have HP := hide hp; have HB2 := hide (Below.next (unhide HB1) hb2 (Nat.le_refl _)); clear hinv hs hg hp hb2))
  obtain ⟨n1, en1⟩ : ∃ k, items.length = k := ⟨_, rfl⟩
  obtain ⟨n2, en2⟩ : ∃ k, ss.length = k := ⟨_, rfl⟩
  obtain ⟨n3, en3⟩ : ∃ k, gs.length = k := ⟨_, rfl⟩
  obtain ⟨ls, els⟩ : ∃ k, sent.length = k := ⟨_, rfl⟩
  obtain ⟨lg, elg⟩ : ∃ k, got.length = k := ⟨_, rfl⟩
  rw [en1, en2, en3] at HP; rw [els] at HS; rw [elg] at HG
  rw [en1, en2, en3, els, elg]
  have HN1 := hide en1; have HN2 := hide en2; have HN3 := hide en3; have HLS := hide els; have HLG := hide elg
  clear en1 en2 en3 els elg
  have HB3 := hide ((unhide HB2).alloc (unhide HB2).size (.cells #[.int .i64 pcap, .slice a1 n1 c1, .bool closed, .slice a2 n2 c2, .slice a3 n3 c3] 25)); have KP3 := hide (new_block w2 (.cells #[.int .i64 pcap, .slice a1 n1 c1, .bool closed, .slice a2 n2 c2, .slice a3 n3 c3] 25)); have HS3 := hide ((unhide HS).below ((Below.refl _ _).alloc (Nat.le_refl _) (.cells #[.int .i64 pcap, .slice a1 n1 c1, .bool closed, .slice a2 n2 c2, .slice a3 n3 c3] 25))); have HG3 := hide ((unhide HG).below ((Below.refl _ _).alloc (Nat.le_refl _) (.cells #[.int .i64 pcap, .slice a1 n1 c1, .bool closed, .slice a2 n2 c2, .slice a3 n3 c3] 25))); have HP3 := hide ((unhide HP).below ((Below.refl _ _).alloc (Nat.le_refl _) (.cells #[.int .i64 pcap, .slice a1 n1 c1, .bool closed, .slice a2 n2 c2, .slice a3 n3 c3] 25)))
  obtain ⟨X, eX⟩ : ∃ k, w2.heap.size = k := ⟨_, rfl⟩
  obtain ⟨W3, e3⟩ : ∃ V, w2.alloc (.cells #[.int .i64 pcap, .slice a1 n1 c1, .bool closed, .slice a2 n2 c2, .slice a3 n3 c3] 25) = V := ⟨_, rfl⟩
  rw [eX, e3] at KP3; rw [e3] at HB3 HS3 HG3 HP3; rw [eX, e3]
  clear eX e3 HB2 HS HG HP
  obtain ⟨p0, p1, p2, p3, p4⟩ := (block5 (unhide KP3)).1
  have hg := (unhide HI).good
  have hcap : pcap = cap := (unhide HI).ecap
  have w1 : IntKind.i64.wrap ((n2 : Int) + n3) = (n2 : Int) + n3 := (by have hc := hg.cnt; unfold countP at hc; simp only at hc; have e2 := unhide HN2; have e3 := unhide HN3; exact wrapi (by omega) (by omega))
  by_cases h2 : 0 < n2
  · obtain ⟨hc, hi, hz⟩ := hg.send (by show 0 < ss.length; rw [unhide HN2]; exact h2)
    simp only at hc hi hz
    subst hc
    have e1 : (n1 : Int) = cap := by rw [← hcap, ← hi, unhide HN1]
    have e3 : n3 = 0 := by rw [← unhide HN3, hz]; rfl
    subst e3
    have f1 : ((n1 : Int) == cap) = true := by simpa using e1
    have f2 : ((n2 : Int) == 0) = false := by simp; omega
    clear hg hi hz e1 hcap
    go_wp2_with fail
    go_ret
    exact ⟨rfl, unhide HB3⟩
  · have e2 : n2 = 0 := by omega
    subst e2
    by_cases h3 : 0 < n3
    · obtain ⟨hc, hi⟩ := hg.get (by show 0 < gs.length; rw [unhide HN3]; exact h3)
      simp only at hc hi
      subst hc
      have e1 : n1 = 0 := by rw [← unhide HN1, hi]; rfl
      subst e1
      have f2 : ((n3 : Int) == 0) = false := by simp; omega
      clear hg hi hcap
      go_wp2_with fail
      go_ret
      exact ⟨rfl, unhide HB3⟩
    · have e3 : n3 = 0 := by omega
      subst e3
      clear hg hcap
      cases closed with
      | true =>
        go_wp2_with fail
        go_ret
        exact ⟨rfl, unhide HB3⟩
      | false =>
        go_wp2_with fail
        go_ret
        exact ⟨rfl, unhide HB3⟩

theorem nobody_walk (w : World) (cap : Int) (vm : Value) (ms : List Int) (hm : IsL KI w vm ms) (hn : ms.length * 8 ≤ 140737488355328) :
    Calls Try.prog 7 #[.int .i64 cap, vm] w fun e w' => e = .returned (.bool true) ∧ Below w.heap.size w w' := by
  by_cases h : cap < 0 ∨ 50 < cap ∨ 300 < ms.length
  · exact nobody_early w cap vm ms hm h hn
  · exact nobody_main w cap vm ms hm (by omega) (by omega) (by omega)
end Go.Proofs.Ytijogcjocandcaa
