/-
  pipe.get, whatever comes; pipe.Get.
-/
import Derived.Test.YtijogcjocandcaaGb
namespace Go.Proofs.Ytijogcjocandcaa
open Go.RowKit

theorem New.two {α : Type} {K : Kind α} (hK : K.Ok) {base : Nat} {w w' : World} {v : Value} {xs : List α} (h : New K base w v xs) {A B : Nat} (hA : v.ownBlock ≠ some A) (hB : v.ownBlock ≠ some B) (hk : ∀ k, k ≠ A → k ≠ B → w'.heap[k]? = w.heap[k]?) : New K base w' v xs := by
  refine ⟨?_, h.2⟩
  by_cases h0 : 0 < xs.length
  · obtain ⟨b, off, c, rfl, hb, hli⟩ := h.1.at hK h0
    exact (hli.keep (hk b (fun e => hA (by rw [e]; rfl)) (fun e => hB (by rw [e]; rfl)))).isl hK rfl h.1.fits
  · have e : xs = [] := List.eq_nil_of_length_eq_zero (by omega)
    subst e
    obtain ⟨a, c, rfl⟩ := h.1.form
    cases a with
    | none =>
      obtain ⟨⟨_, ⟨h1, _⟩ | ⟨ad, cap, h1, _⟩⟩, h2⟩ := h.1
      · cases h1
        exact isl_nil w'
      · cases h1
    | some ad => exact IsL.none_left rfl

set_option maxRecDepth 100000 in
set_option maxHeartbeats 1000000 in
theorem get_first (w : World) (base : Nat) (v : Value) (P : Pp) (t c u : Int) (try_ : Bool) (h : OwnPipe base w v P) (hb : base ≤ w.heap.size) (hc : countP P ≤ 5000) (hz3 : 0 < P.items.length + P.ss.length) :
    Calls Try.prog 42 #[v, .agg #[.int .i64 t, .int .i64 c, .int .i64 u], .bool try_] w fun e w' => ∃ v1 v2, e = .returned (.tuple #[v1, v2]) ∧ NewPipe base w' v1 (firstL P).1 ∧ NewAns base w' v2 (firstL P).2 ∧ Below base w w' := by
  obtain ⟨⟨⟨cap9, items9, closed9, ss9, gs9⟩, ⟨o0, o1, o2, o3, o4, wk9⟩⟩, hR⟩ : ∃ R, firstL P = R := ⟨_, rfl⟩
  have HFA : Hid (∀ W v', OwnPipe base W v' P → base ≤ W.heap.size → Calls Try.prog 52 #[v'] W fun e w' => ∃ v1 v2, e = .returned (.tuple #[v1, v2]) ∧ NewPipe base w' v1 ⟨cap9, items9, closed9, ss9, gs9⟩ ∧ NewAns base w' v2 ⟨o0, o1, o2, o3, o4, wk9⟩ ∧ Below base W w' ∧ (∀ (k : Nat) (o : Obj), W.heap[k]? = some o → (∀ cur f, o ≠ .cells cur 3 f) → w'.heap[k]? = some o) ∧ OffPipe W v1 ∧ OffAns W v2) := fun W v' ho hb' => by
    have := first_any W base v' P ho hb' hc hz3
    rw [hR] at this
    exact this
  rw [hR]
  clear hR
  obtain ⟨cap, items, closed, ss, gs⟩ := P
  obtain ⟨vi, vs, vg, rfl, hI, hS, hG, hA1, hA2, hA3⟩ := h
  obtain ⟨a1, c1, rfl⟩ := hI.form
  obtain ⟨a2, c2, rfl⟩ := hS.form
  obtain ⟨a3, c3, rfl⟩ := hG.form
  have hc' : items.length + ss.length + gs.length ≤ 5000 := hc
  clear hc
  simp only at hI hS hG hA1 hA2 hA3 hz3 HFA ⊢
  have HBA := hide hb

  have HI := hide hI; have HS := hide hS; have HG := hide hG; have HA1 := hide hA1; have HA2 := hide hA2; have HA3 := hide hA3
  clear hI hS hG hA1 hA2 hA3 hb
  obtain ⟨n1, en1⟩ : ∃ n, items.length = n := ⟨_, rfl⟩
  obtain ⟨n2, en2⟩ : ∃ n, ss.length = n := ⟨_, rfl⟩
  obtain ⟨n3, en3⟩ : ∃ n, gs.length = n := ⟨_, rfl⟩
  rw [en1] at HI HA1 HA2; rw [en2] at HS HA1 HA3; rw [en3] at HG HA2 HA3
  rw [en1, en2, en3] at hc'
  rw [en1, en2, en3]
  have HN1 := hide en1; have HN2 := hide en2; have HN3 := hide en3
  clear en1 en2 en3
  have z3 : (0 : Int) < (n1 : Int) + n2 := by have := unhide HN1; have := unhide HN2; omega
  have wl : IntKind.i64.wrap ((n1 : Int) + n2) = (n1 : Int) + n2 := wrapi (by omega) (by omega)
  obtain ⟨W0, e0, hB, k0, k1, k2, k3⟩ := four_new w (.cells #[.int .i64 cap, .slice a1 n1 c1, .bool closed, .slice a2 n2 c2, .slice a3 n3 c3] 25) (.cells #[.int .i64 t, .int .i64 c, .int .i64 u] 39) (.cells #[.int .i64 0, .slice none 0 0, .bool false, .slice none 0 0, .slice none 0 0] 25) (.cells #[.bool false, .bool false, .bool false, .int .i64 0, .int .i64 0, .slice none 0 0] 34)
  have HB := hide hB; have HK0 := hide k0; have HK1 := hide k1; have HK2 := hide k2; have HK3 := hide k3; have HE := hide e0
  clear hB k0 k1 k2 k3 e0
  go_enter Try.func42, Try.ntmps42
  go_upto_region 1 with fail
  rw [unhide HE]
  clear HE
  obtain ⟨⟨p0, p1, p2, p3, p4⟩, ⟨y0, y1, y2, y3, y4⟩, pl⟩ := block5 (unhide HK0)
  obtain ⟨⟨m0, m1, m2⟩, -, ml⟩ := block3 (unhide HK1)
  obtain ⟨⟨q0, q1, q2, q3, q4⟩, ⟨f0, f1, f2, f3, f4⟩, ql⟩ := block5 (unhide HK2)
  obtain ⟨⟨s0, s1, s2, s3, s4, s5⟩, ⟨g0, g1, g2, g3, g4, g5⟩, sl⟩ := block6 (unhide HK3)
  go_wp2_with (go_at_call 52; refine (unhide HFA _ _ ⟨_, _, _, rfl, (unhide HI).below (unhide HB), (unhide HS).below (unhide HB), (unhide HG).below (unhide HB), unhide HA1, unhide HA2, unhide HA3⟩ (Nat.le_trans (unhide HBA) (unhide HB).size)).mono ?_; rintro e w5 ⟨v1, v2, rfl, hp5, ha5, hb5, hz5, hop, hoa⟩; obtain ⟨b1, e1, b2, e2, b3, e3, rfl, i1, i2, i3⟩ := NewPipe.form' hp5; obtain ⟨b4, e4, rfl, i4⟩ := NewAns.form' ha5; obtain ⟨f1', f2', f3'⟩ := hop _ _ _ _ _ rfl; have f4' := hoa _ _ _ _ _ _ rfl; have HI1 := hide i1; have HI2 := hide i2; have HI3 := hide i3; have HI4 := hide i4; have HF1 := hide f1'; have HF2 := hide f2'; have HF3 := hide f3'; have HF4 := hide f4'; have HX5 := hide hb5; have K5 := hide (hz5 _ _ (unhide HK2) (fun _ _ e => by cases e)); have K6 := hide (hz5 _ _ (unhide HK3) (fun _ _ e => by cases e)); clear p0 p1 p2 p3 p4 y0 y1 y2 y3 y4 pl m0 m1 m2 ml q0 q1 q2 q3 q4 f0 f1 f2 f3 f4 ql s0 s1 s2 s3 s4 s5 g0 g1 g2 g3 g4 g5 sl; clear hp5 ha5 hb5 hz5 hop hoa i1 i2 i3 i4 f1' f2' f3' f4'; obtain ⟨⟨q0, q1, q2, q3, q4⟩, ⟨f0, f1, f2, f3, f4⟩, ql⟩ := block5 (unhide K5); obtain ⟨⟨s0, s1, s2, s3, s4, s5⟩, ⟨g0, g1, g2, g3, g4, g5⟩, sl⟩ := block6 (unhide K6))
  refine bodyPost_ret (v := .tuple #[.agg #[.int .i64 cap9, .slice b1 items9.length e1, .bool closed9, .slice b2 ss9.length e2, .slice b3 gs9.length e3], .agg #[.bool o0, .bool o1, .bool o2, .int .i64 o3, .int .i64 o4, .slice b4 wk9.length e4]]) (by simp [results, Try.results42, go_sem, q0, q1, q2, q3, q4, s0, s1, s2, s3, s4, s5]) rfl ⟨_, _, rfl, ⟨_, _, _, rfl, ?_, ?_, ?_⟩, ⟨_, rfl, ?_⟩, put6_below (put5_below (Below.trans ((unhide HB).mono (unhide HBA)) (unhide HX5)) (by have := unhide HBA; omega)) (by have := unhide HBA; omega)⟩
  · exact (unhide HI1).two ki (A := w.heap.size + 1 + 1) (B := w.heap.size + 1 + 1 + 1) (unhide HF1 _ _ (unhide HK2) (fun _ _ e => by cases e) (fun _ _ e => by cases e)) (unhide HF1 _ _ (unhide HK3) (fun _ _ e => by cases e) (fun _ _ e => by cases e)) (fun k h5 h6 => (put6_keep h6).trans (put5_keep h5))
  · exact (unhide HI2).two kp (A := w.heap.size + 1 + 1) (B := w.heap.size + 1 + 1 + 1) (unhide HF2 _ _ (unhide HK2) (fun _ _ e => by cases e) (fun _ _ e => by cases e)) (unhide HF2 _ _ (unhide HK3) (fun _ _ e => by cases e) (fun _ _ e => by cases e)) (fun k h5 h6 => (put6_keep h6).trans (put5_keep h5))
  · exact (unhide HI3).two kp (A := w.heap.size + 1 + 1) (B := w.heap.size + 1 + 1 + 1) (unhide HF3 _ _ (unhide HK2) (fun _ _ e => by cases e) (fun _ _ e => by cases e)) (unhide HF3 _ _ (unhide HK3) (fun _ _ e => by cases e) (fun _ _ e => by cases e)) (fun k h5 h6 => (put6_keep h6).trans (put5_keep h5))
  · exact (unhide HI4).two kw (A := w.heap.size + 1 + 1) (B := w.heap.size + 1 + 1 + 1) (unhide HF4 _ _ (unhide HK2) (fun _ _ e => by cases e) (fun _ _ e => by cases e)) (unhide HF4 _ _ (unhide HK3) (fun _ _ e => by cases e) (fun _ _ e => by cases e)) (fun k h5 h6 => (put6_keep h6).trans (put5_keep h5))

end Go.Proofs.Ytijogcjocandcaa
