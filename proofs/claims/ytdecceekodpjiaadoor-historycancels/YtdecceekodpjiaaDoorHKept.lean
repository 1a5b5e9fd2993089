/-
  Where a signal is kept.
-/
import Derived.Test.YtdecceekodpjiaaDoorHFind
namespace Go.Proofs.YtdecceekodpjiaaDoor
open Go.RowKit

set_option maxRecDepth 100000 in
theorem keptIs_any (w : World) (x y s : ByteArray) (b : Nat) (hc : w.cell? ⟨b, 0, none⟩ = some (.string s)) :
    Calls Tryd.prog 74 #[.agg #[.string x, .string y], .pointer (some ⟨b, 0, none⟩)] w fun e w' => e = .returned (.bool (decide (x = s))) ∧ Kept (fun _ => False) w w' := by
  have hc2 := keepC (Kept.alloc (fun _ => False) w (.cells #[.string x, .string y] 78)) hc (fun _ _ h => h)
  have HE : Hid ((x.toList == s.toList) = decide (x = s)) := str_eq x s
  clear hc
  go_enter Tryd.func74, Tryd.ntmps74
  go_wp2_with (first | go_quiet (fail) | fail)
  go_ret
  refine ⟨?_, ?_⟩
  · rw [← HE.out]; rfl
  · first | exact Kept.alloc _ _ _ | exact (Kept.alloc _ _ _).and (Kept.drewN _ _ _)

theorem keptP_none {l : List Sg} {s : ByteArray} (h : ∀ j (hj : j < l.length), decide ((l[j]).name = s) = false) : keptP l s = none := by
  unfold keptP
  rw [List.findIdx?_eq_none_iff]
  intro x hx
  obtain ⟨j, hj, rfl⟩ := List.mem_iff_getElem.1 hx
  exact h j hj

theorem keptP_some {l : List Sg} {s : ByteArray} {k : Nat} (hk : k < l.length) (h : ∀ j (hj : j < k), decide ((l[j]'(by omega)).name = s) = false) (hf : decide ((l[k]).name = s) = true) : keptP l s = some k := by
  unfold keptP
  rw [List.findIdx?_eq_some_iff_getElem]
  exact ⟨hk, hf, fun j hj => by rw [h j hj]; decide⟩

theorem keptP_lt {l : List Sg} {s : ByteArray} {k : Nat} (h : keptP l s = some k) : k < l.length := by
  unfold keptP at h
  rw [List.findIdx?_eq_some_iff_getElem] at h
  exact h.1

/-- Its place, or -1. -/
def keptZ (l : List Sg) (s : ByteArray) : Int := match keptP l s with | some i => (i : Int) | none => -1

set_option maxRecDepth 100000 in
set_option maxHeartbeats 2000000 in
theorem indexSg_any (w : World) (v : Value) (l : List Sg) (F : FlatAt w 2 v l.length (sgF l)) (hl : l.length ≤ 1000000) (s : ByteArray) (b : Nat) (hc : w.cell? ⟨b, 0, none⟩ = some (.string s)) :
    Calls Tryd.prog 73 #[v, .func (.func 74) #[] #[.pointer (some ⟨b, 0, none⟩)]] w fun e w' => e = .returned (.int .i64 (keptZ l s)) ∧ Kept (fun _ => False) w w' := by
  obtain ⟨a, c, rfl⟩ := F.shape
  have HF : Hid (FlatAt w 2 (.slice a l.length c) l.length (sgF l)) := F
  have HC : Hid (w.cell? ⟨b, 0, none⟩ = some (.string s)) := hc
  clear F hc
  go_enter Tryd.func73, Tryd.ntmps73
  go_wp2_with fail
  go_loopw [8] (fun q wr => ∃ (k : Nat), k ≤ l.length ∧ q = .int .i64 k ∧ (∀ j (hj : j < k) (hj2 : j < l.length), decide ((l[j]).name = s) = false) ∧ Kept (fun _ => False) w wr) (fun q _ => l.length - (intOf q).toNat)
  case atStart => exact ⟨0, Nat.zero_le _, rfl, fun j hj => by omega, Kept.refl _ _⟩
  case round =>
    obtain ⟨k, hk, rfl, hno, K⟩ := hrel
    have HNo : Hid (∀ j (hj : j < k) (hj2 : j < l.length), decide ((l[j]).name = s) = false) := hno
    clear hno
    by_cases hlt : k < l.length
    · have e0 : (k : Int) < (l.length : Int) := by omega
      obtain ⟨_, a2, c2, e2, hcap, _, h3⟩ := HF.out.new K
      obtain ⟨rfl, rfl⟩ : a = a2 ∧ c = c2 := by simpa using e2
      rcases h3 with h3 | ⟨fb, fo, rfl, hcell⟩
      · omega
      · have x0 := hcell (k * 2 + 0) _ ((flatMap_at sgC_len (List.getElem?_eq_getElem hlt) 0 (by decide)).trans rfl)
        have x1 := hcell (k * 2 + 1) _ ((flatMap_at sgC_len (List.getElem?_eq_getElem hlt) 1 (by decide)).trans rfl)
        rw [Nat.add_zero] at x0
        rw [← Nat.add_assoc] at x1
        have hq := keptIs_any wr (l[k]).name (l[k]).text s b (keepC K HC.out (fun _ _ h => h))
        have HFd : Hid (decide ((l[k]).name = s) = true → keptP l s = some k) := fun h => keptP_some hlt (fun j hj => HNo.out j hj (by omega)) h
        have HNx : Hid (decide ((l[k]).name = s) = false → ∀ j (hj : j < k + 1) (hj2 : j < l.length), decide ((l[j]).name = s) = false) := fun h j hj hj2 => by
          by_cases hjk : j = k
          · subst hjk; exact h
          · exact HNo.out j (by omega) hj2
        clear hcell e2
        generalize decide ((l[k]).name = s) = d at *
        generalize l[k] = g at *
        cases d with
        | true =>
          have HZ : Hid (keptZ l s = (k : Int)) := by show _ = _; unfold keptZ; rw [HFd.out rfl]
          clear HFd HNx HNo
          go_wp2_with (first
            | (go_at_call 74; refine hq.mono ?_; rintro e w1 ⟨rfl, K1⟩; clear hq)
            | fail)
          go_ret
          rw [HZ.out]
          exact ⟨rfl, K.and K1⟩
        | false =>
          have HN2 : Hid (∀ j (hj : j < k + 1) (hj2 : j < l.length), decide ((l[j]).name = s) = false) := HNx.out rfl
          clear HFd HNx HNo
          go_wp2_with (first
            | (go_at_call 74; refine hq.mono ?_; rintro e w1 ⟨rfl, K1⟩; clear hq)
            | fail)
          go_roundw
          case rel => exact ⟨k + 1, by omega, by go_num, HN2.out, K.and K1⟩
          case measure => simp [intOf]; omega
    · have e0 : ¬ (k : Int) < (l.length : Int) := by omega
      have HZ : Hid (keptZ l s = -1) := by
        show _ = _
        unfold keptZ
        rw [keptP_none (fun j hj => HNo.out j (by omega) hj)]
      clear HNo
      go_wp2_with fail
      go_ret
      rw [HZ.out]
      exact ⟨rfl, K⟩

set_option maxRecDepth 100000 in
theorem kept_any (w : World) (s : St) (v6 v7 : Value) (R : StRd w s v6 v7) (x : ByteArray) :
    Calls Tryd.prog 71 #[.agg (stA s v6 v7), .string x] w fun e w' => e = .returned (.int .i64 (keptZ s.sigs x)) ∧ Kept (fun _ => False) w w' := by
  have K0 : Kept (fun _ => False) w ((w.alloc (.cells (stA s v6 v7) 39)).alloc (.cells #[.string x] 9)) := (Kept.alloc _ _ _).and (Kept.alloc _ _ _)
  have hb : ((w.alloc (.cells (stA s v6 v7) 39)).alloc (.cells #[.string x] 9)).cell? ⟨w.heap.size + 1, 0, none⟩ = some (.string x) := by
    have h := heap_alloc_new (w.alloc (.cells (stA s v6 v7) 39)) (.cells #[.string x] 9)
    rw [World.size_alloc] at h
    unfold World.cell?
    rw [h]
    rfl
  have hI := indexSg_any _ v7 s.sigs (R.new K0).sigs R.few7 x (w.heap.size + 1) hb
  unfold stA at hI K0 ⊢
  have HK0 : Hid (Kept (fun _ => False) w ((w.alloc (.cells #[.string s.dfn, .string s.id, .string s.par, .string s.pnode, .int .i64 s.status, .string s.text, v6, v7, .int .i64 s.events] 39)).alloc (.cells #[.string x] 9))) := K0
  clear K0 R hb
  generalize keptZ s.sigs x = z at *
  go_enter Tryd.func71, Tryd.ntmps71
  go_wp2_with (first
    | (go_at_call 73; refine hI.mono ?_; rintro e w1 ⟨rfl, K1⟩; clear hI)
    | fail)
  go_ret
  exact ⟨rfl, HK0.out.and K1⟩

end Go.Proofs.YtdecceekodpjiaaDoor
