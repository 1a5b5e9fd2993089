/-
  firsts, ahead: whom a name means.
-/
import Derived.Test.YtdecceekodpjiaaDoorDTab
import Derived.Test.YtdecceekodpjiaaDoorDFind
namespace Go.Proofs.YtdecceekodpjiaaDoor
open Go.RowKit Go.Maps Go.ChangeMaps Go.MapKept Go.WideMaps

/-- The table of the first nodes of each name. -/
def firstM (ns : List Nd) (s : ByteArray) : Option Value := (findP ns s).map (fun i => Value.int .i64 (i : Nat))

/-- Block b is that table. -/
def FirstAt (w : World) (b : Nat) (ns : List Nd) : Prop := ∃ n, STab Tryd.prog 9 w b n (firstM ns)

theorem FirstAt.kept {S : Nat → Prop} {w w' : World} {b : Nat} {ns : List Nd} (T : FirstAt w b ns) (K : Kept S w w') (hS : ¬ S b) : FirstAt w' b ns := by
  obtain ⟨n, h⟩ := T
  exact ⟨n, h.kept K hS⟩

theorem firstM_next {ns : List Nd} {k : Nat} (hk : k < ns.length) (hf : findP (ns.take k) (ns[k]).name = none) : ∀ x, updS (firstM (ns.take k)) (ns[k]).name (some (.int .i64 (k : Nat))) x = firstM (ns.take (k + 1)) x := by
  intro x
  unfold updS firstM
  rw [findP_take hk]
  by_cases e : x = (ns[k]).name
  · subst e; rw [hf]; simp
  · have : ¬ (ns[k]).name = x := fun h => e h.symm
    simp [e, this]

theorem firstM_same {ns : List Nd} {k : Nat} (hk : k < ns.length) {j : Nat} (hf : findP (ns.take k) (ns[k]).name = some j) : ∀ x, firstM (ns.take k) x = firstM (ns.take (k + 1)) x := by
  intro x
  unfold firstM
  rw [findP_take hk]
  by_cases e : (ns[k]).name = x
  · subst e; rw [hf]; rfl
  · simp [e]

theorem firstM_isSome (ns : List Nd) (s : ByteArray) : (firstM ns s).isSome = (findP ns s).isSome := by unfold firstM; simp

set_option maxRecDepth 100000 in
set_option maxHeartbeats 2000000 in
theorem firsts_any (w : World) (name : ByteArray) (a : Option Addr) (n c : Nat) (ns : List Nd) (hN : NodesAt w a ns) (hl : ns.length = n) (hn : n ≤ 1000000000000) :
    Calls Tryd.prog 60 #[.agg #[.string name, .slice a n c]] w fun e w' => e = .returned (.map (some (w.heap.size + 1))) ∧ FirstAt w' (w.heap.size + 1) ns ∧ Kept (fun _ => False) w w' := by
  subst hl
  have hmm : ∀ W, (Instr.makeMap 110 (some (.int .i64 (ns.length : Nat)))).run Tryd.prog W = .ok (.map (some W.heap.size)) (W.alloc (.map #[] 0)) := fun W => rfl
  have HM : Hid (STab Tryd.prog 9 ((w.alloc (.cells #[.string name, .slice a ns.length c] 28)).alloc (.map #[] 0)) (w.heap.size + 1) 0 (firstM [])) := by
    have := STab.made Tryd.prog 9 (w.alloc (.cells #[.string name, .slice a ns.length c] 28))
    rw [World.size_alloc] at this
    exact this
  go_enter Tryd.func60, Tryd.ntmps60
  go_wp2
  go_loopw [15] (fun i wr => ∃ (k : Nat), k ≤ ns.length ∧ i = .int .i64 k ∧ Kept (fun j => j = w.heap.size + 1) ((w.alloc (.cells #[.string name, .slice a ns.length c] 28)).alloc (.map #[] 0)) wr ∧ STab Tryd.prog 9 wr (w.heap.size + 1) k (firstM (ns.take k))) (fun i _ => ns.length - (intOf i).toNat)
  case atStart => exact ⟨0, Nat.zero_le _, rfl, Kept.refl _ _, HM.out⟩
  case round =>
    obtain ⟨k, hk, rfl, K, T⟩ := hrel
    have Kw : Kept (fun _ => False) w wr := (((Kept.alloc (fun _ => False) _ _).and (Kept.alloc _ _ _)).trans K (fun i h => .inr (by omega)))
    by_cases hlt : k < ns.length
    · obtain ⟨b, o, av, cv, rfl, hT, c0, c1, c2, c3, c4, c5, c6⟩ := (keptNew Kw hN).at hlt
      have hok := (hN.1 _ (List.getElem_mem hlt)).name
      have e0 : (k : Int) < (ns.length : Int) := by omega
      have T2 := T.kept (Kept.alloc (fun _ => False) wr (.cells #[.string (ns[k]).name, .int .i64 (ns[k]).kind, .string (ns[k]).arg, .string (ns[k]).to, .int .i64 (ns[k]).delay, .int .i64 (ns[k]).tries, .slice av (ns[k]).after.length cv] 32)) (fun h => h)
      have hlk := T2.lookOk Tryd.underlying9 Tryd.underlying110 (z := .int .i64 0) (by rfl) hok
      have HT2 : Hid (STab Tryd.prog 9 (wr.alloc (.cells #[.string (ns[k]).name, .int .i64 (ns[k]).kind, .string (ns[k]).arg, .string (ns[k]).to, .int .i64 (ns[k]).delay, .int .i64 (ns[k]).tries, .slice av (ns[k]).after.length cv] 32)) (w.heap.size + 1) k (firstM (ns.take k))) := T2
      clear hT T
      cases hf : findP (ns.take k) (ns[k]).name with
      | none =>
        have hf2 : firstM (ns.take k) (ns[k]).name = none := by unfold firstM; rw [hf]; rfl
        rw [hf2] at hlk
        obtain ⟨w2, hst, T3, ht⟩ := T2.store Tryd.underlying9 Tryd.underlying110 (by unfold maxLen; omega) hok (.int .i64 (k : Nat))
        have HN : Hid (∀ x, updS (firstM (ns.take k)) (ns[k]).name (some (.int .i64 (k : Nat))) x = firstM (ns.take (k + 1)) x) := firstM_next hlt hf
        clear hf hf2 T2
        generalize ns[k] = x at *
        go_wp2
        go_roundw
        case rel => exact ⟨k + 1, by omega, by go_num, (K.and (Kept.alloc _ _ _)).and (Kept.turned ht rfl), T3.is HN.out⟩
        case measure => simp [intOf]; omega
      | some j =>
        have hf2 : firstM (ns.take k) (ns[k]).name = some (.int .i64 (j : Nat)) := by unfold firstM; rw [hf]; rfl
        rw [hf2] at hlk
        simp only [Option.getD_some, Option.isSome_some] at hlk
        have HN : Hid (∀ x, firstM (ns.take k) x = firstM (ns.take (k + 1)) x) := firstM_same hlt hf
        clear hf hf2 T2
        generalize ns[k] = x at *
        go_wp2
        go_roundw
        case rel => exact ⟨k + 1, by omega, by go_num, K.and (Kept.alloc _ _ _), (HT2.out.mono (by omega)).is HN.out⟩
        case measure => simp [intOf]; omega
    · obtain rfl : k = ns.length := by omega
      go_wp2
      go_ret
      rw [List.take_length] at T
      exact ⟨rfl, ⟨_, T⟩, Kw⟩

theorem str_ne (s t : ByteArray) : (s.toList != t.toList) = !decide (s = t) := by
  by_cases h : s = t
  · subst h; simp
  · have : s.toList ≠ t.toList := fun e => h (ByteArray.ext (Array.toList_inj.1 (by rw [← Lib.toList_data, ← Lib.toList_data]; exact e)))
    simp [h, this]

theorem str_eq (s t : ByteArray) : (s.toList == t.toList) = decide (s = t) := by
  by_cases h : s = t
  · subst h; simp
  · have : s.toList ≠ t.toList := fun e => h (ByteArray.ext (Array.toList_inj.1 (by rw [← Lib.toList_data, ← Lib.toList_data]; exact e)))
    simp [h, this]

set_option maxRecDepth 100000 in
set_option maxHeartbeats 2000000 in
theorem ahead_any (w : World) (mb : Nat) (ns : List Nd) (T : FirstAt w mb ns) (x0 : ByteArray) (x1 : Int) (x2 x3 : ByteArray) (x4 x5 : Int) (x6 : List ByteArray) (av : Option Addr) (lv cv : Nat) (s : ByteArray) (hs : s.size ≤ maxLen) :
    Calls Tryd.prog 70 #[.agg #[.string x0, .int .i64 x1, .string x2, .string x3, .int .i64 x4, .int .i64 x5, .slice av lv cv], .string s, .map (some mb)] w fun e w' => e = .returned (.tuple #[.int .i64 ((findP ns s).getD 0 : Nat), .bool (aheadP ns ⟨x0, x1, x2, x3, x4, x5, x6⟩ s).isSome]) ∧ Kept (fun _ => False) w w' := by
  obtain ⟨m, T⟩ := T
  have hlk := (T.kept (Kept.alloc (fun _ => False) w (.cells #[.string x0, .int .i64 x1, .string x2, .string x3, .int .i64 x4, .int .i64 x5, .slice av lv cv] 32)) (fun h => h)).lookOk Tryd.underlying9 Tryd.underlying110 (z := .int .i64 0) (by rfl) hs
  have hne := str_eq s x0
  unfold aheadP
  simp only []
  have hv : (firstM ns s).getD (.int .i64 0) = .int .i64 ((findP ns s).getD 0 : Nat) := by unfold firstM; cases findP ns s <;> rfl
  have hb := firstM_isSome ns s
  rw [hv, hb] at hlk
  generalize (findP ns s).getD 0 = g at *
  clear T hv hb
  by_cases he : s = x0
  · rw [if_pos he]
    simp only [he, decide_true] at hne
    subst he
    cases hf : (findP ns s).isSome <;>
    · rw [hf] at hlk
      go_enter Tryd.func70, Tryd.ntmps70
      go_wp2_with (first | go_quiet (fail) | fail)
      go_ret2
      exact ⟨rfl, (Kept.alloc _ _ _).and (Kept.drewN _ _ _)⟩
  · rw [if_neg he]
    simp only [he, decide_false] at hne
    cases hf : (findP ns s).isSome <;>
    · rw [hf] at hlk
      go_enter Tryd.func70, Tryd.ntmps70
      go_wp2_with (first | go_quiet (fail) | fail)
      go_ret2
      exact ⟨rfl, (Kept.alloc _ _ _).and (Kept.drewN _ _ _)⟩

end Go.Proofs.YtdecceekodpjiaaDoor
