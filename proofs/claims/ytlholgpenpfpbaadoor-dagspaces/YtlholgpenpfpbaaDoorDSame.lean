/-
  The law's own comparing: texts, nodes, definitions that are the same.
-/
import Derived.Test.YtlholgpenpfpbaaDoorDLines3
import Derived.Deep.RegionHeld3
import Derived.Deep.QuietTactic
import Derived.BigQuiet
namespace Go.Proofs.YtlholgpenpfpbaaDoor
open Go.RowKit

set_option maxRecDepth 100000 in
set_option maxHeartbeats 2000000 in
theorem texts_same (w : World) (a1 a2 : Option Addr) (c1 c2 : Nat) (l : List ByteArray) (h1 : TextsAt w (.slice a1 l.length c1) l) (h2 : TextsAt w (.slice a2 l.length c2) l) (hl : l.length ≤ 1000000) :
    Calls Tryd.prog 43 #[.slice a1 l.length c1, .slice a2 l.length c2] w fun e w' => e = .returned (.bool true) ∧ Kept (fun _ => False) w w' := by
  have H1 : Hid (TextsAt w (.slice a1 l.length c1) l) := h1
  have H2 : Hid (TextsAt w (.slice a2 l.length c2) l) := h2
  clear h1 h2
  have e0 : ((l.length : Int) != (l.length : Int)) = false := by simp
  go_enter Tryd.func43, Tryd.ntmps43
  go_wp2_with fail
  go_loopw [5] (fun q wr => ∃ (k : Nat), k ≤ l.length ∧ q = .int .i64 k ∧ Kept (fun _ => False) w wr) (fun q _ => l.length - (intOf q).toNat)
  case atStart => exact ⟨0, Nat.zero_le _, rfl, Kept.refl _ _⟩
  case round =>
    obtain ⟨k, hk, rfl, K⟩ := hrel
    by_cases hlk : k < l.length
    · have e1 : (k : Int) < (l.length : Int) := by omega
      obtain ⟨b1, d1, s1, _, n1⟩ := (H1.out.kept K (fun _ _ h => h)).at
      obtain ⟨rfl, rfl⟩ : a1 = b1 ∧ c1 = d1 := by simpa using s1
      obtain ⟨b2, d2, s2, _, n2⟩ := (H2.out.kept K (fun _ _ h => h)).at
      obtain ⟨rfl, rfl⟩ : a2 = b2 ∧ c2 = d2 := by simpa using s2
      obtain ⟨xb, xo, rfl, hx⟩ := n1 (fun e => by rw [e] at hlk; simp at hlk)
      obtain ⟨yb, yo, rfl, hy⟩ := n2 (fun e => by rw [e] at hlk; simp at hlk)
      have x0 := hx k hlk
      have y0 := hy k hlk
      have w1 : IntKind.i64.wrap (k : Int) = (k : Int) := by rw [IntKind.wrap_i64]; omega
      have q0 : ((l[k]).toList != (l[k]).toList) = false := by simp
      clear s1 s2 n1 n2 hx hy
      generalize l[k] = s at *
      go_wp2_with (first | go_quiet (fail) | fail)
      go_roundw
      case rel => exact ⟨k + 1, by omega, by go_num, K.and (Kept.drewN _ _ _)⟩
      case measure => simp [intOf]; omega
    · obtain rfl : k = l.length := by omega
      have e1 : ¬ (l.length : Int) < (l.length : Int) := by omega
      go_wp2_with fail
      go_ret
      exact ⟨rfl, K⟩

set_option maxRecDepth 100000 in
set_option maxHeartbeats 2000000 in
theorem node_same (w : World) (n : Nd) (a1 a2 : Option Addr) (c1 c2 : Nat) (h1 : TextsAt w (.slice a1 n.after.length c1) n.after) (h2 : TextsAt w (.slice a2 n.after.length c2) n.after) (hl : n.after.length ≤ 1000000) :
    Calls Tryd.prog 20 #[.agg #[.string n.name, .int .i64 n.kind, .string n.arg, .string n.to, .int .i64 n.delay, .int .i64 n.tries, .slice a1 n.after.length c1], .agg #[.string n.name, .int .i64 n.kind, .string n.arg, .string n.to, .int .i64 n.delay, .int .i64 n.tries, .slice a2 n.after.length c2]] w fun e w' => e = .returned (.bool true) ∧ Kept (fun _ => False) w w' := by
  have K2 : Kept (fun _ => False) w ((w.alloc (.cells #[.string n.name, .int .i64 n.kind, .string n.arg, .string n.to, .int .i64 n.delay, .int .i64 n.tries, .slice a1 n.after.length c1] 44)).alloc (.cells #[.string n.name, .int .i64 n.kind, .string n.arg, .string n.to, .int .i64 n.delay, .int .i64 n.tries, .slice a2 n.after.length c2] 44)) := (Kept.alloc _ _ _).and (Kept.alloc _ _ _)
  have hT := texts_same _ a1 a2 c1 c2 n.after (h1.kept K2 (fun _ _ h => h)) (h2.kept K2 (fun _ _ h => h)) hl
  have HK2 : Hid _ := K2
  have q0 : (n.name.toList == n.name.toList) = true := by simp
  have q1 : (n.kind == n.kind) = true := by simp
  have q2 : (n.arg.toList == n.arg.toList) = true := by simp
  have q3 : (n.to.toList == n.to.toList) = true := by simp
  have q4 : (n.delay == n.delay) = true := by simp
  have q5 : (n.tries == n.tries) = true := by simp
  clear h1 h2 K2
  go_enter Tryd.func20, Tryd.ntmps20
  go_wp2_with (first
    | (go_at_call 43; refine hT.mono ?_; rintro e w5 ⟨rfl, K5⟩; clear hT)
    | fail)
  go_ret
  exact ⟨rfl, HK2.out.and K5⟩

set_option maxRecDepth 100000 in
set_option maxHeartbeats 4000000 in
theorem def_same (w : World) (name : ByteArray) (a1 a2 : Option Addr) (c1 c2 : Nat) (ns : List Nd) (h1 : NodesAt w a1 ns) (h2 : NodesAt w a2 ns) (hn : ns.length ≤ 1000000) :
    Calls Tryd.prog 8 #[.agg #[.string name, .slice a1 ns.length c1], .agg #[.string name, .slice a2 ns.length c2]] w fun e w' => e = .returned (.bool true) ∧ Kept (fun _ => False) w w' := by
  have H1 : Hid (NodesAt w a1 ns) := h1
  have H2 : Hid (NodesAt w a2 ns) := h2
  have q0 : (name.toList != name.toList) = false := by simp
  have q1 : ((ns.length : Int) != (ns.length : Int)) = false := by simp
  clear h1 h2
  go_enter Tryd.func8, Tryd.ntmps8
  go_wp2_with fail
  go_loopw [5] (fun q wr => ∃ (k : Nat), k ≤ ns.length ∧ q = .int .i64 k ∧ Kept (fun _ => False) ((w.alloc (.cells #[.string name, .slice a1 ns.length c1] 26)).alloc (.cells #[.string name, .slice a2 ns.length c2] 26)) wr) (fun q _ => ns.length - (intOf q).toNat)
  case atStart => exact ⟨0, Nat.zero_le _, rfl, Kept.refl _ _⟩
  case round =>
    obtain ⟨k, hk, rfl, K⟩ := hrel
    have Kw : Kept (fun _ => False) w wr := ((Kept.alloc (fun _ => False) _ _).and (Kept.alloc _ _ _)).and K
    have z1 : wr.cell? ⟨w.heap.size, 1, none⟩ = some (.slice a1 ns.length c1) := boxC ((Kept.alloc (fun _ => False) _ _).and K) (fun h => h) 1 _ rfl
    have z2 : wr.cell? ⟨w.heap.size + 1, 1, none⟩ = some (.slice a2 ns.length c2) := by
      have h := boxC K (fun h => h) 1 _ rfl
      rw [World.size_alloc] at h
      exact h
    by_cases hlk : k < ns.length
    · have e1 : (k : Int) < (ns.length : Int) := by omega
      obtain ⟨b1, o1, v1, d1, rfl, t1, x0, x1, x2, x3, x4, x5, x6⟩ := (keptNew Kw H1.out).at hlk
      obtain ⟨b2, o2, v2, d2, rfl, t2, y0, y1, y2, y3, y4, y5, y6⟩ := (keptNew Kw H2.out).at hlk
      have hfew := (H1.out.1 _ (List.getElem_mem hlk)).few
      have KD := Kept.drew (fun _ => False) wr
      have hN := node_same wr.drew ns[k] v1 v2 d1 d2 (t1.kept KD (fun _ _ h => h)) (t2.kept KD (fun _ _ h => h)) hfew
      have w1 : IntKind.i64.wrap (k : Int) = (k : Int) := by rw [IntKind.wrap_i64]; omega
      have HS : Hid (∀ V, Kept (fun _ => False) wr.drew V → Kept (fun _ => False) wr.drew V ∧ V.cell? ⟨w.heap.size, 1, none⟩ = some (.slice (some ⟨b1, o1, none⟩) ns.length c1) ∧ V.cell? ⟨w.heap.size + 1, 1, none⟩ = some (.slice (some ⟨b2, o2, none⟩) ns.length c2) ∧
          (V.cell? ⟨b1, o1 + k * 7, none⟩ = some (.string (ns[k]).name) ∧ V.cell? ⟨b1, o1 + k * 7 + 1, none⟩ = some (.int .i64 (ns[k]).kind) ∧ V.cell? ⟨b1, o1 + k * 7 + 2, none⟩ = some (.string (ns[k]).arg) ∧ V.cell? ⟨b1, o1 + k * 7 + 3, none⟩ = some (.string (ns[k]).to) ∧ V.cell? ⟨b1, o1 + k * 7 + 4, none⟩ = some (.int .i64 (ns[k]).delay) ∧ V.cell? ⟨b1, o1 + k * 7 + 5, none⟩ = some (.int .i64 (ns[k]).tries) ∧ V.cell? ⟨b1, o1 + k * 7 + 6, none⟩ = some (.slice v1 (ns[k]).after.length d1)) ∧
          (V.cell? ⟨b2, o2 + k * 7, none⟩ = some (.string (ns[k]).name) ∧ V.cell? ⟨b2, o2 + k * 7 + 1, none⟩ = some (.int .i64 (ns[k]).kind) ∧ V.cell? ⟨b2, o2 + k * 7 + 2, none⟩ = some (.string (ns[k]).arg) ∧ V.cell? ⟨b2, o2 + k * 7 + 3, none⟩ = some (.string (ns[k]).to) ∧ V.cell? ⟨b2, o2 + k * 7 + 4, none⟩ = some (.int .i64 (ns[k]).delay) ∧ V.cell? ⟨b2, o2 + k * 7 + 5, none⟩ = some (.int .i64 (ns[k]).tries) ∧ V.cell? ⟨b2, o2 + k * 7 + 6, none⟩ = some (.slice v2 (ns[k]).after.length d2))) := fun V KV =>
        have g : ∀ {ad : Addr} {u : Value}, wr.cell? ad = some u → V.cell? ad = some u := fun h => keepC (KD.and KV) h (fun _ _ h => h)
        ⟨KV, g z1, g z2, ⟨g x0, g x1, g x2, g x3, g x4, g x5, g x6⟩, ⟨g y0, g y1, g y2, g y3, g y4, g y5, g y6⟩⟩
      have HKD : Hid (Kept (fun _ => False) wr wr.drew) := KD
      clear t1 t2 KD x0 x1 x2 x3 x4 x5 x6 y0 y1 y2 y3 y4 y5 y6
      generalize ns[k] = n at *
      go_wp2_with fail
      refine wp_onlyN ?_
      (go_region_held (fun V => Kept (fun _ => False) wr.drew V ∧ V.cell? ⟨w.heap.size, 1, none⟩ = some (.slice (some ⟨b1, o1, none⟩) ns.length c1) ∧ V.cell? ⟨w.heap.size + 1, 1, none⟩ = some (.slice (some ⟨b2, o2, none⟩) ns.length c2) ∧
          (V.cell? ⟨b1, o1 + k * 7, none⟩ = some (.string n.name) ∧ V.cell? ⟨b1, o1 + k * 7 + 1, none⟩ = some (.int .i64 n.kind) ∧ V.cell? ⟨b1, o1 + k * 7 + 2, none⟩ = some (.string n.arg) ∧ V.cell? ⟨b1, o1 + k * 7 + 3, none⟩ = some (.string n.to) ∧ V.cell? ⟨b1, o1 + k * 7 + 4, none⟩ = some (.int .i64 n.delay) ∧ V.cell? ⟨b1, o1 + k * 7 + 5, none⟩ = some (.int .i64 n.tries) ∧ V.cell? ⟨b1, o1 + k * 7 + 6, none⟩ = some (.slice v1 n.after.length d1)) ∧
          (V.cell? ⟨b2, o2 + k * 7, none⟩ = some (.string n.name) ∧ V.cell? ⟨b2, o2 + k * 7 + 1, none⟩ = some (.int .i64 n.kind) ∧ V.cell? ⟨b2, o2 + k * 7 + 2, none⟩ = some (.string n.arg) ∧ V.cell? ⟨b2, o2 + k * 7 + 3, none⟩ = some (.string n.to) ∧ V.cell? ⟨b2, o2 + k * 7 + 4, none⟩ = some (.int .i64 n.delay) ∧ V.cell? ⟨b2, o2 + k * 7 + 5, none⟩ = some (.int .i64 n.tries) ∧ V.cell? ⟨b2, o2 + k * 7 + 6, none⟩ = some (.slice v2 n.after.length d2))) (first | exact HS.out _ (Kept.refl _ _) | exact HS.out _ (by assumption)) (first
        | (go_at_call 20; refine hN.mono ?_; rintro e w5 ⟨rfl, K5⟩)
        | fail))
      simp only [onlyN]
      rename_i hHeld
      clear hHeld HS hN z1 z2
      have K5' : Kept (fun _ => False) wr w5 := HKD.out.and K5
      clear K5
      go_wp2_with fail
      go_roundw
      case rel => exact ⟨k + 1, by omega, by go_num, K.and K5'⟩
      case measure => simp [intOf]; omega
    · obtain rfl : k = ns.length := by omega
      have e1 : ¬ (ns.length : Int) < (ns.length : Int) := by omega
      go_wp2_with fail
      go_ret
      exact ⟨rfl, Kw⟩

end Go.Proofs.YtlholgpenpfpbaaDoor
