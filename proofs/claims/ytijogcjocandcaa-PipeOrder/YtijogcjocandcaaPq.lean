/-
  taskmilllaw.PipeOrder.
-/
import Derived.Test.YtijogcjocandcaaPn
import Derived.Deep.QuietTactic
import Derived.BigQuiet
namespace Go.Proofs.Ytijogcjocandcaa
open Go.RowKit

set_option maxRecDepth 100000 in
set_option maxHeartbeats 1000000 in
theorem order_early (w : World) (cap : Int) (vm : Value) (ms : List Int) (hm : IsL KI w vm ms) (h : cap < 0 ∨ 50 < cap ∨ 300 < ms.length) (hn : ms.length * 8 ≤ 140737488355328) :
    Calls Try.prog 6 #[.int .i64 cap, vm] w fun e w' => e = .returned (.bool true) ∧ Below w.heap.size w w' := by
  have hnot : ∀ (x : Bool) (w : World), (Op.unary .not (.bool x)).run Try.prog w = .ok (.bool (!x)) w := fun _ _ => rfl
  obtain ⟨am, cm, rfl⟩ := hm.form
  generalize ms.length = n at h hn
  clear hm
  by_cases h0 : cap < 0
  · clear h hn
    go_enter Try.func6, Try.ntmps6
    go_wp2_with (go_at_call 9; refine (begun_any _).mono ?_; rintro e w1 ⟨rfl, hb1⟩; have HB := hide hb1; clear hb1)
    go_ret
    exact ⟨rfl, unhide HB⟩
  · by_cases h1 : 50 < cap
    · clear h hn
      go_enter Try.func6, Try.ntmps6
      go_wp2_with (go_at_call 9; refine (begun_any _).mono ?_; rintro e w1 ⟨rfl, hb1⟩; have HB := hide hb1; clear hb1)
      go_ret
      exact ⟨rfl, unhide HB⟩
    · have h2 : (300 : Int) < (n : Int) := by omega
      clear h hn
      go_enter Try.func6, Try.ntmps6
      go_wp2_with (go_at_call 9; refine (begun_any _).mono ?_; rintro e w1 ⟨rfl, hb1⟩; have HB := hide hb1; clear hb1)
      go_ret
      exact ⟨rfl, unhide HB⟩

set_option maxRecDepth 100000 in
set_option maxHeartbeats 2000000 in
theorem order_main (w : World) (cap : Int) (vm : Value) (ms : List Int) (hm : IsL KI w vm ms) (h0 : 0 ≤ cap) (h1 : cap ≤ 50) (hn : ms.length ≤ 300) :
    Calls Try.prog 6 #[.int .i64 cap, vm] w fun e w' => e = .returned (.bool true) ∧ Below w.heap.size w w' := by
  have hnot : ∀ (x : Bool) (w : World), (Op.unary .not (.bool x)).run Try.prog w = .ok (.bool (!x)) w := fun _ _ => rfl
  have HPY : Hid (∀ W, Below w.heap.size w W → Calls Try.prog 28 #[.int .i64 cap, vm] W fun e w' => ∃ sent got P a1 c1 a2 c2 vp, e = .returned (.tuple #[.slice a1 sent.length c1, .slice a2 got.length c2, vp, .bool true]) ∧ Inv ms.length cap sent got P ∧ IsL KI w' (.slice a1 sent.length c1) sent ∧ IsL KI w' (.slice a2 got.length c2) got ∧ IsPipe w' vp P ∧ Below W.heap.size W w') := fun W hW => played_any W cap vm ms (hm.below hW) h0 h1 hn
  obtain ⟨am, cm, rfl⟩ := hm.form
  obtain ⟨n, en⟩ : ∃ k, ms.length = k := ⟨_, rfl⟩
  rw [en] at hn HPY ⊢
  clear hm en
  have z0 : ¬ cap < 0 := by omega
  have z1 : ¬ 50 < cap := by omega
  have z2 : ¬ (300 : Int) < (n : Int) := by omega
  go_enter Try.func6, Try.ntmps6
  go_upto_region 6 with (first
    | (go_at_call 9; refine (begun_any _).mono ?_; rintro e w1 ⟨rfl, hb1⟩; have HB1 := hide hb1; clear hb1)
    | (go_at_call 28; refine (unhide HPY _ (unhide HB1)).mono ?_; rintro e w2 ⟨sent, got, P, as_, cs, ag, cg, vp, rfl, hinv, hs, hg, hp, hb2⟩; obtain ⟨pcap, items, closed, ss, gs⟩ := P; obtain ⟨a1, c1, a2, c2, a3, c3, ev, -, -, -⟩ := hp.form; simp only at ev; subst ev; have HI := hide hinv; have HS := hide hs; have HG := hide hg; have HP := hide hp; have HB2 := hide (Below.next (unhide HB1) hb2 (Nat.le_refl _)); clear hinv hs hg hp hb2))
  obtain ⟨n1, en1⟩ : ∃ k, items.length = k := ⟨_, rfl⟩
  obtain ⟨n2, en2⟩ : ∃ k, ss.length = k := ⟨_, rfl⟩
  obtain ⟨n3, en3⟩ : ∃ k, gs.length = k := ⟨_, rfl⟩
  obtain ⟨ls, els⟩ : ∃ k, sent.length = k := ⟨_, rfl⟩
  obtain ⟨lg, elg⟩ : ∃ k, got.length = k := ⟨_, rfl⟩
  rw [en1, en2, en3] at HP; rw [els] at HS; rw [elg] at HG
  rw [en1, en2, en3, els, elg]
  have HN1 := hide en1; have HN2 := hide en2; have HN3 := hide en3; have HLS := hide els; have HLG := hide elg
  clear en1 en2 en3 els elg
  have HB3 := hide ((unhide HB2).alloc (unhide HB2).size (.cells #[.int .i64 pcap, .slice a1 n1 c1, .bool closed, .slice a2 n2 c2, .slice a3 n3 c3] 25)); have KP3 := hide (new_block w2 (.cells #[.int .i64 pcap, .slice a1 n1 c1, .bool closed, .slice a2 n2 c2, .slice a3 n3 c3] 25)); have HS3 := hide ((unhide HS).below ((Below.refl _ _).alloc (Nat.le_refl _) (.cells #[.int .i64 pcap, .slice a1 n1 c1, .bool closed, .slice a2 n2 c2, .slice a3 n3 c3] 25))); have HG3 := hide ((unhide HG).below ((Below.refl _ _).alloc (Nat.le_refl _) (.cells #[.int .i64 pcap, .slice a1 n1 c1, .bool closed, .slice a2 n2 c2, .slice a3 n3 c3] 25))); have HP3 := hide ((unhide HP).below ((Below.refl _ _).alloc (Nat.le_refl _) (.cells #[.int .i64 pcap, .slice a1 n1 c1, .bool closed, .slice a2 n2 c2, .slice a3 n3 c3] 25)))
  obtain ⟨X, eX⟩ : ∃ k, w2.heap.size = k := ⟨_, rfl⟩
  obtain ⟨W3, e3⟩ : ∃ V, w2.alloc (.cells #[.int .i64 pcap, .slice a1 n1 c1, .bool closed, .slice a2 n2 c2, .slice a3 n3 c3] 25) = V := ⟨_, rfl⟩
  rw [eX, e3] at KP3; rw [e3] at HB3 HS3 HG3 HP3; rw [eX, e3]
  clear eX e3 HB2 HS HG HP
  obtain ⟨p0, p1, p2, p3, p4⟩ := (block5 (unhide KP3)).1
  have HLEN : Hid (ls = lg + n1) := (by have h9 := congrArg List.length (unhide HI).eq; rw [List.length_append, unhide HLS, unhide HLG] at h9; simp only at h9; rw [unhide HN1] at h9; exact h9)
  have HLE : Hid (ls ≤ 300) := (by have h9 := (unhide HI).len; rw [unhide HLS] at h9; show ls ≤ 300; omega)
  have hle := unhide HLE
  have hlen := unhide HLEN
  have w1 : IntKind.i64.wrap ((lg : Int) + n1) = (ls : Int) := by rw [wrapi (by omega) (by omega)]; omega
  clear hle hlen
  go_upto_region 10 with fail
  clear p0 p1 p2 p3 p4
  have hle := unhide HLE
  have hlen := unhide HLEN
  have HIT : Hid (IsL KI W3 (.slice a1 n1 c1) items) := (by obtain ⟨vi, vs, vg, ev, i1, -, -⟩ := unhide HP3; cases ev; exact i1)
  have HOW : Hid (∀ W, Below W3.heap.size W3 W → Calls Try.prog 29 #[.slice ag lg cg] W fun e w' => ∃ a' c', e = .returned (.slice a' lg c') ∧ Own KI W.heap.size w' (.slice a' lg c') got ∧ Below W.heap.size W w') := fun W hW => (by have h9 := own_any W _ got ((unhide HG3).below hW) (by rw [unhide HLG]; omega); rw [unhide HLG] at h9; exact h9)
  obtain ⟨p0, p1, p2, p3, p4⟩ := (block5 (unhide KP3)).1
  clear hle hlen
  go_region_law (first
    | (refine step_append ki rfl (.tmp 44) (.tmp 46) rfl W3.heap.size _ got rfl (unhide HO4) _ items rfl ((unhide HIT).below (unhide HX4)) ls (by rw [unhide HLG, unhide HN1]; exact (unhide HLEN).symm) (by show ls * 8 ≤ 140737488355328; have h9 := unhide HLE; omega) (unhide HX4).size ?_; intro b6 d6 w5 ho6 hg6; have HO5 := hide ho6; have HX5 : Hid (Below W3.heap.size W3 w5) := (unhide HX4).grown hg6 (unhide HX4).size (fun k hk => ((unhide HO4).lt k hk).1); clear ho6 hg6)
    | (go_simp; go_at_call 29; refine (unhide HOW _ (by first | exact (Below.refl _ _).drew | exact Below.refl _ _)).mono ?_; rintro e w4 ⟨b5, d5, rfl, ho5, hb5⟩; have HO4 : Hid (Own KI W3.heap.size w4 (.slice b5 lg d5) got) := ho5.base (Nat.le_refl _); have HX4 : Hid (Below W3.heap.size W3 w4) := Below.next (by first | exact (Below.refl _ _).drew | exact Below.refl _ _) hb5 (Nat.le_refl _); clear ho5 hb5; obtain ⟨p0', p1', p2', p3', p4'⟩ := (block5 (keep_below (unhide KP3) (unhide HX4))).1))
  all_goals (
    have hal : got ++ items = sent := (unhide HI).eq.symm
    rw [hal] at HO5
    have HA := hide ((unhide HO5).isl.opens ki (unhide HLS)); have HSS := hide ((unhide HS3).below (unhide HX5)); have HBB := hide (Below.next (unhide HB3) (unhide HX5) (Nat.le_refl _))
    have HPW : Hid (sent.Pairwise (· < ·)) := (List.pairwise_append.1 (unhide HI).inc).1
    clear hal p0 p1 p2 p3 p4 p0' p1' p2' p3' p4'
    go_wp2_with fail
    go_loopw [10] (fun i wr => ∃ j : Nat, j ≤ ls ∧ i = .int .i64 j ∧ Below w5.heap.size w5 wr) (fun i _ => ls - (intOf i).toNat)
    case atStart => exact ⟨0, Nat.zero_le _, rfl, Below.refl _ _⟩
    case round =>
      obtain ⟨j, hj, rfl, hnx⟩ := hrel
      have HNX := hide hnx
      clear hnx
      by_cases hlt : j < ls
      · obtain ⟨b0, o0, rfl, hb0, l0⟩ := unhide HA (by omega)
        obtain ⟨x, hx⟩ : ∃ z, sent.getD j 0 = z := ⟨_, rfl⟩
        have kj : wr.cell? ⟨b0, o0 + j, none⟩ = some (.int .i64 x) := (by have h9 := (l0.below (unhide HNX) hb0).ints (j := j) (by rw [unhide HLS]; exact hlt); rw [hx] at h9; exact h9)
        have HH : Hid (∀ W, Below wr.heap.size wr W → Calls Try.prog 30 #[.slice as_ ls cs, .int .i64 x] W fun e w' => e = .returned (.bool true) ∧ Below W.heap.size W w') := fun W hW => (by
          have h9 := has_any W _ sent x ((unhide HSS).below (Below.next (unhide HNX) hW (Nat.le_refl _))) (by rw [unhide HLS]; have := unhide HLE; unfold maxLen; omega)
          rw [(contains_iff sent x).2 ⟨j, by rw [unhide HLS]; exact hlt, hx⟩] at h9
          exact h9)
        have hle := unhide HLE
        have i0 : (0 : Int) ≤ (j : Int) := by omega
        have i1 : (j : Int) < (ls : Int) := by omega
        by_cases hj0 : j = 0
        · have d0 : decide ((0 : Int) < (j : Int)) = false := by simp; omega
          have d1 : decide (0 < j) = false := by simp; omega
          clear hj0
          go_wp2_with fail
          go_quiet (fail)
          have kj2 : (wr.drewN nq).cell? ⟨b0, o0 + j, none⟩ = some (.int .i64 x) := kj
          have HH2 := hide (unhide HH (wr.drewN nq) (below_drewN (Below.refl _ _) nq))
          have HX7 : Hid (Below w5.heap.size w5 (wr.drewN nq)) := below_drewN (unhide HNX) nq
          obtain ⟨W7, e7⟩ : ∃ V, wr.drewN nq = V := ⟨_, rfl⟩
          rw [e7] at kj2 HH2 HX7 ⊢
          clear e7
          go_wp2_with (go_at_call 30; refine (unhide HH2).mono ?_; rintro e w8 ⟨rfl, hb8⟩; have HX8 := hide (Below.next (unhide HX7) hb8 (Nat.le_refl _)); clear hb8)
          go_roundw
          case rel => exact ⟨j + 1, by omega, by go_num, unhide HX8⟩
          case measure => simp [intOf]; omega
        · obtain ⟨x', hx'⟩ : ∃ z, sent.getD (j - 1) 0 = z := ⟨_, rfl⟩
          have kp : wr.cell? ⟨b0, o0 + (j - 1), none⟩ = some (.int .i64 x') := (by have h9 := (l0.below (unhide HNX) hb0).ints (j := j - 1) (by rw [unhide HLS]; omega); rw [hx'] at h9; exact h9)
          have hxx : x' < x := (by
            have h9 := List.pairwise_iff_getElem.1 (unhide HPW) (j - 1) j (by rw [unhide HLS]; omega) (by rw [unhide HLS]; exact hlt) (by omega)
            rw [List.getD_eq_getElem?_getD, List.getElem?_eq_getElem (by rw [unhide HLS]; exact hlt)] at hx
            rw [List.getD_eq_getElem?_getD, List.getElem?_eq_getElem (by rw [unhide HLS]; omega)] at hx'
            rw [← hx, ← hx']
            exact h9)
          have ej : ((j : Int) - 1).toNat = j - 1 := by omega
          have wj : IntKind.i64.wrap ((j : Int) - 1) = (j : Int) - 1 := wrapi (by omega) (by omega)
          have i2 : (0 : Int) < (j : Int) := by omega
          have i5 : 0 < j := by omega
          have i6 : decide (0 < j) = true := decide_eq_true i5
          have i3 : (0 : Int) ≤ (j : Int) - 1 := by omega
          have i4 : (j : Int) - 1 < (ls : Int) := by omega
          have dx : decide (x ≤ x') = false := by simpa using hxx
          go_wp2_with fail
          go_quiet (fail)
          have kj2 : (wr.drewN nq).cell? ⟨b0, o0 + j, none⟩ = some (.int .i64 x) := kj
          have HH2 := hide (unhide HH (wr.drewN nq) (below_drewN (Below.refl _ _) nq))
          have HX7 : Hid (Below w5.heap.size w5 (wr.drewN nq)) := below_drewN (unhide HNX) nq
          obtain ⟨W7, e7⟩ : ∃ V, wr.drewN nq = V := ⟨_, rfl⟩
          rw [e7] at kj2 HH2 HX7 ⊢
          clear e7
          go_wp2_with (go_at_call 30; refine (unhide HH2).mono ?_; rintro e w8 ⟨rfl, hb8⟩; have HX8 := hide (Below.next (unhide HX7) hb8 (Nat.le_refl _)); clear hb8)
          go_roundw
          case rel => exact ⟨j + 1, by omega, by go_num, unhide HX8⟩
          case measure => simp [intOf]; omega
      · have hjn : j = ls := by omega
        subst hjn
        go_wp2_with fail
        go_ret
        exact ⟨rfl, Below.next (unhide HBB) (unhide HNX) (Nat.le_refl _)⟩
  )

theorem order_walk (w : World) (cap : Int) (vm : Value) (ms : List Int) (hm : IsL KI w vm ms) (hn : ms.length * 8 ≤ 140737488355328) :
    Calls Try.prog 6 #[.int .i64 cap, vm] w fun e w' => e = .returned (.bool true) ∧ Below w.heap.size w w' := by
  by_cases h : cap < 0 ∨ 50 < cap ∨ 300 < ms.length
  · exact order_early w cap vm ms hm h hn
  · exact order_main w cap vm ms hm (by omega) (by omega) (by omega)
end Go.Proofs.Ytijogcjocandcaa
