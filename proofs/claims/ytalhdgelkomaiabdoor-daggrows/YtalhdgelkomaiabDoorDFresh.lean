/-
  The law's fresh: a name that no node has.
-/
import Derived.Test.YtalhdgelkomaiabDoorDLevP
import Derived.Test.YtalhdgelkomaiabDoorDRefFind
import Derived.Test.YtalhdgelkomaiabDoorDLines3
namespace Go.Proofs.YtalhdgelkomaiabDoor
open Go.RowKit

/-- A name of so many signs. -/
def zsB (k : Nat) : ByteArray := ⟨Array.replicate k 122⟩

theorem zsB_size (k : Nat) : (zsB k).size = k := by unfold zsB; simp [ByteArray.size]
theorem zsB_inj {j k : Nat} (h : zsB j = zsB k) : j = k := by have := congrArg ByteArray.size h; rwa [zsB_size, zsB_size] at this

/-- That many names are there at the most. -/
theorem zs_few {ns : List Nd} {k : Nat} (h : ∀ j, 1 ≤ j → j ≤ k → (findP ns (zsB j)).isSome = true) : k ≤ ns.length := by
  have h1 : ((List.range k).map (fun j => fj ns (zsB (j + 1)))).Nodup := by
    rw [List.nodup_iff_pairwise_ne, List.pairwise_iff_getElem]
    intro i j hi hj hij e
    simp only [List.getElem_map, List.getElem_range] at e
    simp at hi hj
    obtain ⟨a, ha⟩ := Option.isSome_iff_exists.1 (h (i + 1) (by omega) (by omega))
    obtain ⟨b, hb⟩ := Option.isSome_iff_exists.1 (h (j + 1) (by omega) (by omega))
    unfold fj at e
    rw [ha, hb] at e
    simp at e
    subst e
    have n1 := findP_name ha
    have n2 := findP_name hb
    rw [n1] at n2
    have := zsB_inj n2
    omega
  have h2 := nodup_le h1 (n := ns.length) (fun x hx => by
    obtain ⟨j, hj, rfl⟩ := List.mem_map.1 hx
    obtain ⟨a, ha⟩ := Option.isSome_iff_exists.1 (h (j + 1) (by omega) (by have := List.mem_range.1 hj; omega))
    unfold fj; rw [ha]; exact findP_lt ha)
  simpa using h2

theorem zs_name {k : Nat} (h1 : 1 ≤ k) (h2 : k ≤ 64) : nameP (zsB k) = true := by
  unfold nameP madeP
  rw [zsB_size]
  have e1 : decide (1 ≤ k) = true := by simpa using h1
  have e2 : decide ((k : Int) ≤ 64) = true := by simp; omega
  rw [e1, e2]
  simp only [Bool.true_and, List.all_eq_true]
  intro c hc
  have : c = 122 := by
    unfold zsB at hc
    simp at hc
    exact hc.2
  subst this
  decide

set_option maxRecDepth 100000 in
set_option maxHeartbeats 1000000 in
theorem fresh_any (w : World) (name : ByteArray) (a : Option Addr) (c : Nat) (ns : List Nd) (hN : NodesAt w a ns) (hn : ns.length ≤ 9) :
    Calls Tryd.prog 7 #[.agg #[.string name, .slice a ns.length c]] w fun e w' => ∃ k, e = .returned (.string (zsB k)) ∧ 1 ≤ k ∧ k ≤ 10 ∧ findP ns (zsB k) = none ∧ Kept (fun _ => False) w w' := by
  have HN : Hid (NodesAt w a ns) := hN
  clear hN
  go_enter Tryd.func7, Tryd.ntmps7
  go_wp2_with fail
  go_loopw [3] (fun q wr => ∃ (k : Nat), 1 ≤ k ∧ k ≤ ns.length + 1 ∧ q = .string (zsB k) ∧ (∀ j, 1 ≤ j → j < k → (findP ns (zsB j)).isSome = true) ∧ Kept (fun _ => False) (w.alloc (.cells #[.string name, .slice a ns.length c] 24)) wr) (fun q _ => ns.length + 1 - (match q with | .string s => s.size | _ => 0))
  case atStart => exact ⟨1, Nat.le_refl _, by omega, rfl, fun j h1 h2 => by omega, Kept.refl _ _⟩
  case round =>
    obtain ⟨k, hk1, hk2, rfl, hfd, K⟩ := hrel
    have Kw := (Kept.alloc (fun _ => False) w _).and K
    obtain ⟨d0, d1⟩ := boxD K
    have hF := refFind_any wr name a ns.length c ns (keptNew Kw HN.out) rfl (by omega) (zsB k)
    have HFd : Hid (∀ j, 1 ≤ j → j < k → (findP ns (zsB j)).isSome = true) := hfd
    clear hfd
    cases hf : findP ns (zsB k) with
    | none =>
      rw [hf] at hF
      simp only [Option.isSome_none] at hF
      generalize (none : Option Nat).getD 0 = z at *
      have HF : Hid (findP ns (zsB k) = none) := hf
      clear hf
      go_wp2_with (first
        | (go_at_call 15; refine hF.mono ?_; rintro e w5 ⟨rfl, K5⟩; clear hF)
        | fail)
      go_ret
      exact ⟨k, rfl, hk1, by omega, HF.out, Kw.and K5⟩
    | some j =>
      rw [hf] at hF
      simp only [Option.isSome_some] at hF
      have hall : ∀ i, 1 ≤ i → i ≤ k → (findP ns (zsB i)).isSome = true := fun i h1 h2 => by
        by_cases e : i = k
        · subst e; rw [hf]; rfl
        · exact HFd.out i h1 (by omega)
      have HA : Hid (∀ i, 1 ≤ i → i ≤ k → (findP ns (zsB i)).isSome = true) := hall
      have hkn := zs_few hall
      have hadd : Value.string (zsB k ++ ⟨#[122]⟩) = .string (zsB (k + 1)) := by
        congr 1
        unfold zsB
        apply ByteArray.ext
        simp [Array.replicate_succ]
      have HAdd : Hid (Value.string (zsB k ++ ⟨#[122]⟩) = .string (zsB (k + 1))) := hadd
      have hsz : (zsB k).size ≤ 10 := by rw [zsB_size]; omega
      clear hf hall HFd hadd
      generalize (some j : Option Nat).getD 0 = z at *
      go_wp2_with (first
        | (go_at_call 15; refine hF.mono ?_; rintro e w5 ⟨rfl, K5⟩; clear hF)
        | fail)
      refine ⟨⟨k + 1, by omega, by omega, HAdd.out, fun i h1 h2 => HA.out i h1 (by omega), K.and K5⟩, ?_⟩
      rw [HAdd.out]
      show ns.length + 1 - (zsB (k + 1)).size < ns.length + 1 - (zsB k).size
      rw [zsB_size, zsB_size]
      omega

end Go.Proofs.YtalhdgelkomaiabDoor
