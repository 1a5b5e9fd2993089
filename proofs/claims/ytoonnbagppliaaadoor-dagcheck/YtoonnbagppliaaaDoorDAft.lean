/-
  checkAfter: what is wrong with a node's After.
-/
import Derived.Test.YtoonnbagppliaaaDoorDFind
namespace Go.Proofs.YtoonnbagppliaaaDoor
open Go.RowKit

/-- Thirty-two counts in block tb. -/
def TimesAt (w : World) (tb : Nat) (f : Nat → Nat) : Prop := ∀ j, j < 32 → w.cell? ⟨tb, j, none⟩ = some (.int .i64 (f j : Nat)) ∧ w.frozen? ⟨tb, j, none⟩ = false

theorem TimesAt.kept {w w' : World} {S : Nat → Prop} {tb : Nat} {f : Nat → Nat} (C : TimesAt w tb f) (K : Kept S w w') (h : ¬ S tb) : TimesAt w' tb f := fun j hj => by
  obtain ⟨c, z⟩ := C j hj
  have hb := K.block tb (World.block_lt_of_cell? w _ c) h
  exact ⟨(World.cell?_of_block hb).trans c, (World.frozen?_of_block hb).trans z⟩

theorem TimesAt.inc {w : World} {tb : Nat} {f : Nat → Nat} (C : TimesAt w tb f) {b : Nat} {z : Int} (hz : z = ((f b + 1 : Nat) : Int)) : TimesAt (w.setCell ⟨tb, b, none⟩ (.int .i64 z)) tb (fun j => if j = b then f j + 1 else f j) := fun j hj => by
  obtain ⟨c, q⟩ := C j hj
  refine ⟨?_, by rw [World.frozen?_setCell]; exact q⟩
  by_cases e : j = b
  · subst e
    rw [World.cell?_setCell_same' w ⟨tb, j, none⟩ _ (by rw [c]; rfl), hz]
    simp
  · rw [World.cell?_setCell_other _ _ _ _ (fun h => e (by cases h; rfl)), c]
    simp [e]

theorem timesNew (w : World) (T : TypeId) : TimesAt (w.alloc (.cells #[.int .i64 0, .int .i64 0, .int .i64 0, .int .i64 0, .int .i64 0, .int .i64 0, .int .i64 0, .int .i64 0, .int .i64 0, .int .i64 0, .int .i64 0, .int .i64 0, .int .i64 0, .int .i64 0, .int .i64 0, .int .i64 0, .int .i64 0, .int .i64 0, .int .i64 0, .int .i64 0, .int .i64 0, .int .i64 0, .int .i64 0, .int .i64 0, .int .i64 0, .int .i64 0, .int .i64 0, .int .i64 0, .int .i64 0, .int .i64 0, .int .i64 0, .int .i64 0] T)) w.heap.size (fun _ => 0) := by
  intro j hj
  have h := heap_alloc_new w (.cells #[.int .i64 0, .int .i64 0, .int .i64 0, .int .i64 0, .int .i64 0, .int .i64 0, .int .i64 0, .int .i64 0, .int .i64 0, .int .i64 0, .int .i64 0, .int .i64 0, .int .i64 0, .int .i64 0, .int .i64 0, .int .i64 0, .int .i64 0, .int .i64 0, .int .i64 0, .int .i64 0, .int .i64 0, .int .i64 0, .int .i64 0, .int .i64 0, .int .i64 0, .int .i64 0, .int .i64 0, .int .i64 0, .int .i64 0, .int .i64 0, .int .i64 0, .int .i64 0] T)
  constructor
  · unfold World.cell?
    rw [h]
    match j, hj with
    | 0, _ | 1, _ | 2, _ | 3, _ | 4, _ | 5, _ | 6, _ | 7, _ | 8, _ | 9, _ | 10, _ | 11, _ | 12, _ | 13, _ | 14, _ | 15, _ | 16, _ | 17, _ | 18, _ | 19, _ | 20, _ | 21, _ | 22, _ | 23, _ | 24, _ | 25, _ | 26, _ | 27, _ | 28, _ | 29, _ | 30, _ | 31, _ => rfl
    | j + 32, h => omega
  · unfold World.frozen?
    rw [h]
    rfl

theorem nodup_snoc (l : List ByteArray) (s : ByteArray) : (l ++ [s]).Nodup ↔ l.Nodup ∧ s ∉ l := by
  rw [List.nodup_append]
  constructor
  · rintro ⟨h1, _, h3⟩
    exact ⟨h1, fun h => h3 s h s (by simp) rfl⟩
  · rintro ⟨h1, h2⟩
    exact ⟨h1, by simp, fun a ha b hb e => by simp at hb; subst hb; subst e; exact h2 ha⟩

/-- How many of some names mean node j. -/
def tim (ns : List Nd) (l : List ByteArray) (j : Nat) : Nat := l.countP (fun s => decide (findP ns s = some j))

theorem tim_pos {ns : List Nd} {l : List ByteArray} {s : ByteArray} {j : Nat} (h : findP ns s = some j) : 0 < tim ns l j ↔ s ∈ l := by
  unfold tim
  rw [List.countP_pos_iff]
  constructor
  · rintro ⟨x, hx, hd⟩
    have h2 := of_decide_eq_true hd
    have := findP_name h2
    rw [findP_name h] at this
    rw [this]; exact hx
  · intro hs
    exact ⟨s, hs, by simpa using h⟩

theorem tim_snoc {ns : List Nd} {l : List ByteArray} {s : ByteArray} {j : Nat} (h : findP ns s = some j) : tim ns (l ++ [s]) = fun k => if k = j then tim ns l k + 1 else tim ns l k := by
  funext k
  unfold tim
  rw [List.countP_append, List.countP_singleton, h]
  by_cases e : k = j
  · subst e; simp
  · have : ¬ j = k := fun h => e h.symm
    simp [e, this]

theorem take_snoc {α : Type} {l : List α} {k : Nat} (h : k < l.length) : l.take (k + 1) = l.take k ++ [l[k]] := by rw [List.take_add_one, List.getElem?_eq_getElem h]; rfl

set_option maxRecDepth 100000 in
set_option maxHeartbeats 2000000 in
theorem checkAfter_any (w : World) (name : ByteArray) (a : Option Addr) (n c : Nat) (ns : List Nd) (hN : NodesAt w a ns) (hl : ns.length = n) (hn : n ≤ 32) (i : Nat) (hi : i < ns.length) :
    Calls Tryd.prog 10 #[.agg #[.string name, .slice a n c], .int .i64 i] w fun e w' => e = .returned (.int .i64 (afterE ns ns[i])) ∧ Kept (fun _ => False) w w' := by
  have K0 : Kept (fun _ => False) w ((w.alloc (.cells #[.string name, .slice a n c] 25)).alloc (.cells #[.int .i64 0, .int .i64 0, .int .i64 0, .int .i64 0, .int .i64 0, .int .i64 0, .int .i64 0, .int .i64 0, .int .i64 0, .int .i64 0, .int .i64 0, .int .i64 0, .int .i64 0, .int .i64 0, .int .i64 0, .int .i64 0, .int .i64 0, .int .i64 0, .int .i64 0, .int .i64 0, .int .i64 0, .int .i64 0, .int .i64 0, .int .i64 0, .int .i64 0, .int .i64 0, .int .i64 0, .int .i64 0, .int .i64 0, .int .i64 0, .int .i64 0, .int .i64 0] 48)) := (Kept.alloc _ _ _).and (Kept.alloc _ _ _)
  obtain ⟨b, o, av, cv, rfl, hT, c0, c1, c2, c3, c4, c5, c6⟩ := hN.at hi
  replace c6 := keepC K0 c6 (fun _ _ h => h)
  have hfew := (hN.1 _ (List.getElem_mem hi)).few
  have e0 : (i : Int) < (n : Int) := by omega
  have HT : Hid (TextsAt w (.slice av (ns[i]).after.length cv) (ns[i]).after) := hT
  have HTi : Hid (TimesAt ((w.alloc (.cells #[.string name, .slice (some ⟨b, o, none⟩) n c] 25)).alloc (.cells #[.int .i64 0, .int .i64 0, .int .i64 0, .int .i64 0, .int .i64 0, .int .i64 0, .int .i64 0, .int .i64 0, .int .i64 0, .int .i64 0, .int .i64 0, .int .i64 0, .int .i64 0, .int .i64 0, .int .i64 0, .int .i64 0, .int .i64 0, .int .i64 0, .int .i64 0, .int .i64 0, .int .i64 0, .int .i64 0, .int .i64 0, .int .i64 0, .int .i64 0, .int .i64 0, .int .i64 0, .int .i64 0, .int .i64 0, .int .i64 0, .int .i64 0, .int .i64 0] 48)) (w.heap.size + 1) (tim ns [])) := by
    have := timesNew (w.alloc (.cells #[.string name, .slice (some ⟨b, o, none⟩) n c] 25)) 48
    rw [World.size_alloc] at this
    exact this
  have HD : Hid (∀ W, Kept (fun j => j = w.heap.size + 1) ((w.alloc (.cells #[.string name, .slice (some ⟨b, o, none⟩) n c] 25)).alloc (.cells #[.int .i64 0, .int .i64 0, .int .i64 0, .int .i64 0, .int .i64 0, .int .i64 0, .int .i64 0, .int .i64 0, .int .i64 0, .int .i64 0, .int .i64 0, .int .i64 0, .int .i64 0, .int .i64 0, .int .i64 0, .int .i64 0, .int .i64 0, .int .i64 0, .int .i64 0, .int .i64 0, .int .i64 0, .int .i64 0, .int .i64 0, .int .i64 0, .int .i64 0, .int .i64 0, .int .i64 0, .int .i64 0, .int .i64 0, .int .i64 0, .int .i64 0, .int .i64 0] 48)) W → (W.cell? ⟨w.heap.size, 0, none⟩ = some (.string name) ∧ W.cell? ⟨w.heap.size, 1, none⟩ = some (.slice (some ⟨b, o, none⟩) n c)) ∧ NodesAt W (some ⟨b, o, none⟩) ns ∧ Kept (fun _ => False) w W) := fun W K => by
    have K2 : Kept (fun j => j = w.heap.size + 1) (w.alloc (.cells #[.string name, .slice (some ⟨b, o, none⟩) n c] 25)) W := (Kept.alloc _ _ _).and K
    have K3 : Kept (fun j => j = w.heap.size + 1) w W := (Kept.alloc _ _ _).and K2
    exact ⟨⟨boxC K2 (by omega) 0 _ rfl, boxC K2 (by omega) 1 _ rfl⟩, hN.kept K3 (fun k hk => by omega), (Kept.refl (fun _ => False) w).trans K3 (fun i h => .inr (by omega))⟩
  clear hT hN c0 c1 c2 c3 c4 c5
  generalize hE : afterE ns ns[i] = E
  have HE : Hid (afterE ns ns[i] = E) := hE
  clear hE
  generalize ns[i] = x at *
  go_enter Tryd.func10, Tryd.ntmps10
  go_wp2
  go_loopw [6, 18] (fun t q wr => ∃ (k : Nat), k ≤ x.after.length ∧ q = .int .i64 k ∧ Kept (fun j => j = w.heap.size + 1) ((w.alloc (.cells #[.string name, .slice (some ⟨b, o, none⟩) n c] 25)).alloc (.cells #[.int .i64 0, .int .i64 0, .int .i64 0, .int .i64 0, .int .i64 0, .int .i64 0, .int .i64 0, .int .i64 0, .int .i64 0, .int .i64 0, .int .i64 0, .int .i64 0, .int .i64 0, .int .i64 0, .int .i64 0, .int .i64 0, .int .i64 0, .int .i64 0, .int .i64 0, .int .i64 0, .int .i64 0, .int .i64 0, .int .i64 0, .int .i64 0, .int .i64 0, .int .i64 0, .int .i64 0, .int .i64 0, .int .i64 0, .int .i64 0, .int .i64 0, .int .i64 0] 48)) wr ∧ TimesAt wr (w.heap.size + 1) (tim ns (x.after.take k)) ∧
      (x.after.take k).all (fun s => (findP ns s).isSome) = true ∧ t = .bool (!decide (x.after.take k).Nodup)) (fun _ q _ => x.after.length - (intOf q).toNat)
  case atStart => exact ⟨0, Nat.zero_le _, rfl, Kept.refl _ _, HTi.out, rfl, rfl⟩
  case round =>
    obtain ⟨k, hk, rfl, K, hTi, hall, rfl⟩ := hrel
    obtain ⟨⟨d0, d1⟩, hNr, Kw⟩ := HD.out _ K
    by_cases hlt : k < x.after.length
    · obtain ⟨a2, c2, hsl, hc2, hne⟩ := (HT.out.kept Kw (fun _ _ h => h)).at
      obtain ⟨rfl, rfl⟩ : av = a2 ∧ cv = c2 := by simpa using hsl
      obtain ⟨xb, xo, rfl, hcell⟩ := hne (fun e => by rw [e] at hlt; simp at hlt)
      have hck := hcell k hlt
      have hfd := find_any wr name (some ⟨b, o, none⟩) n c ns hNr hl (by omega) (x.after[k])
      have e1 : (k : Int) < (x.after.length : Int) := by omega
      clear hsl hcell hne
      cases hf : findP ns (x.after[k]) with
      | none =>
        rw [hf] at hfd
        simp only [Option.getD_none, Option.isSome_none] at hfd
        have HN : Hid (x.after.all (fun s => (findP ns s).isSome) = false) := List.all_eq_false.2 ⟨_, List.getElem_mem hlt, by rw [hf]; simp⟩
        generalize x.after[k] = s at *
        go_wp2_with (first
          | (go_at_call 21; refine hfd.mono ?_; rintro e w1 ⟨rfl, K1⟩; clear hfd)
          | fail)
        go_ret
        refine ⟨?_, Kw.and K1⟩
        rw [← HE.out]
        unfold afterE
        rw [HN.out]
        rfl
      | some j =>
        rw [hf] at hfd
        simp only [Option.getD_some, Option.isSome_some] at hfd
        have hj := findP_lt hf
        have ht := take_snoc hlt
        have htm := tim_snoc (l := x.after.take k) hf
        have hps := tim_pos (l := x.after.take k) hf
        have hnd := nodup_snoc (x.after.take k) x.after[k]
        rw [← ht] at htm hnd
        have hle : tim ns (x.after.take k) j ≤ k := Nat.le_trans List.countP_le_length (by rw [List.length_take]; omega)
        have HA : Hid ((x.after.take (k + 1)).all (fun s => (findP ns s).isSome) = true) := by
          show _ = _
          rw [ht, List.all_append, hall]; simp [hf]
        have HQ : Hid ((x.after.take (k + 1)).Nodup ↔ (x.after.take k).Nodup ∧ tim ns (x.after.take k) j = 0) := by
          show _ ↔ _
          rw [hnd, ← hps]
          constructor
          · rintro ⟨h1, h2⟩; exact ⟨h1, by omega⟩
          · rintro ⟨h1, h2⟩; exact ⟨h1, by omega⟩
        have HM : Hid (tim ns (x.after.take (k + 1)) = fun k_1 => if k_1 = j then tim ns (x.after.take k) k_1 + 1 else tim ns (x.after.take k) k_1) := htm
        have HTk : Hid (TimesAt wr (w.heap.size + 1) (tim ns (x.after.take k))) := hTi
        have e2 : (j : Int) < 32 := by omega
        clear hTi hnd hps htm ht hf hall
        cases hb : decide (x.after.take k).Nodup with
        | false =>
          have HB : Hid ((x.after.take (k + 1)).Nodup ↔ False) := by show _ ↔ _; rw [HQ.out]; simp at hb; simp [hb]
          clear HQ hb
          generalize x.after[k] = s at *
          generalize hg : tim ns (x.after.take k) j = f at *
          go_wp2_with (first
            | (go_at_call 21; refine hfd.mono ?_; rintro e w1 ⟨rfl, K1⟩; clear hfd; have T1 : Hid (TimesAt w1 (w.heap.size + 1) (tim ns (x.after.take k))) := HTk.out.kept K1 (fun h => h); obtain ⟨tc, tz⟩ := T1.out j (by omega); rw [hg] at tc)
            | fail)
          go_roundw
          case rel =>
            refine ⟨k + 1, by omega, by go_num, (K.and (K1.mono (fun _ h => h.elim))).and (Kept.setCell _ _ _ rfl), ?_, HA.out, ?_⟩
            · rw [HM.out]; exact T1.out.inc (by rw [hg]; rfl)
            · simp [HB.out]
          case measure => simp [intOf]; omega
        | true =>
          have HB : Hid ((x.after.take (k + 1)).Nodup ↔ tim ns (x.after.take k) j = 0) := by show _ ↔ _; rw [HQ.out]; simp at hb; simp [hb]
          clear HQ hb
          generalize x.after[k] = s at *
          generalize hg : tim ns (x.after.take k) j = f at *
          go_wp2_with (first
            | (go_at_call 21; refine hfd.mono ?_; rintro e w1 ⟨rfl, K1⟩; clear hfd; have T1 : Hid (TimesAt w1 (w.heap.size + 1) (tim ns (x.after.take k))) := HTk.out.kept K1 (fun h => h); obtain ⟨tc, tz⟩ := T1.out j (by omega); rw [hg] at tc)
            | fail)
          go_roundw
          case rel =>
            refine ⟨k + 1, by omega, by go_num, (K.and (K1.mono (fun _ h => h.elim))).and (Kept.setCell _ _ _ rfl), ?_, HA.out, ?_⟩
            · rw [HM.out]; exact T1.out.inc (by rw [hg]; rfl)
            · have hh : ((1 : Int) < (f : Int) + 1) ↔ ¬ f = 0 := by omega
              simp [HB.out, hh]
          case measure => simp [intOf]; omega
    · obtain rfl : k = x.after.length := by omega
      rw [List.take_length] at hall
      cases hd : decide x.after.Nodup <;>
      · rw [List.take_length, hd]
        go_wp2
        go_ret
        refine ⟨?_, Kw⟩
        rw [← HE.out]
        unfold afterE
        rw [hall]
        simp at hd
        simp [hd]

end Go.Proofs.YtoonnbagppliaaaDoor
