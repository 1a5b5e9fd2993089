/-
  HistoryEnds as data: what is closed stays closed; a cancel closes what runs.
-/
import Derived.Test.YtfjekjbkifmpfabDoorG31
namespace Go.Proofs.YtfjekjbkifmpfabDoor
open Go.RowKit

section
variable {nm : ByteArray} {ns : List Nd}

theorem step_closed {s : St} (h0 : s.status ≠ 0) (h1 : s.status ≠ 1) (q : Inp) : ∃ e, stepP nm ns s q = (⟨s, q.now, [], []⟩, e) ∧ e ≠ 0 := by
  unfold stepP doP
  by_cases hk : q.kind = 1
  · rw [if_pos hk]
    unfold startP
    rw [if_pos h0]
    exact ⟨7, rfl, by decide⟩
  · rw [if_neg hk, if_neg (show ¬ (⟨s, q.now, [], []⟩ : Rn).st.status = 0 from h0), if_pos (show (⟨s, q.now, [], []⟩ : Rn).st.status ≠ 1 from h1)]
    exact ⟨11, rfl, by decide⟩

theorem told_range {r r' : Rn} (h : Tolds nm ns r r') : 1 ≤ r.st.status ∧ r.st.status ≤ 4 → 1 ≤ r'.st.status ∧ r'.st.status ≤ 4 := by
  induction h with
  | none => exact fun h => h
  | @tell r r' e ts he _ ih =>
    intro h0
    refine ih ?_
    unfold tellP
    cases hc : changeP nm ns r.st e with
    | none => exact h0
    | some t =>
      show 1 ≤ t.status ∧ t.status ≤ 4
      unfold changeP at hc
      by_cases hst : r.st.status ≠ (if e.kind = 1 then 0 else 1)
      · rw [if_pos hst] at hc; cases hc
      rw [if_neg hst, if_neg he] at hc
      split at hc
      · cases hc; exact h0
      split at hc
      · split at hc
        · rename_i hnum
          cases hc
          show 1 ≤ e.num ∧ e.num ≤ 4
          omega
        · cases hc
      · cases hcn : changeNodeP ns r.st e with
        | none => rw [hcn] at hc; cases hc
        | some u =>
          rw [hcn] at hc
          cases hc
          unfold changeNodeP at hcn
          repeat' split at hcn
          all_goals first
            | (cases hcn; done)
            | (cases hcn; exact h0)

/-- What has begun is running or closed, behind every input. -/
theorem step_range (S : Sound ns) {s : St} (M : Met ns s) (h : 1 ≤ s.status ∧ s.status ≤ 4) (q : Inp) : 1 ≤ (stepP nm ns s q).1.st.status ∧ (stepP nm ns s q).1.st.status ≤ 4 := by
  by_cases hk : q.kind = 1
  · unfold stepP doP
    rw [if_pos hk]
    unfold startP
    rw [if_pos (show (⟨s, q.now, [], []⟩ : Rn).st.status ≠ 0 by show s.status ≠ 0; omega)]
    exact h
  · exact told_range (doP_few (nm := nm) S (r := ⟨s, q.now, [], []⟩) q hk (fun h => ⟨M.2 h, M.1⟩)).1 h

theorem start_range (q : Inp) : 1 ≤ (goOnP nm ns (startR nm ns q)).st.status ∧ (goOnP nm ns (startR nm ns q)).st.status ≤ 4 := told_range goOnP_told ⟨by show (1 : Int) ≤ 1; decide, by show (1 : Int) ≤ 4; decide⟩

/-- A cancel closes what runs. -/
theorem step_cancel {s : St} (hs : s.status = 1) (q : Inp) (hk : q.kind = 8) (ht : q.text.size ≤ 256) : (stepP nm ns s q).2 = 0 ∧ (stepP nm ns s q).1.st.status = 4 := by
  unfold stepP
  have hd : doP nm ns ⟨s, q.now, [], []⟩ q = cancelP nm ns ⟨s, q.now, [], []⟩ q := by
    unfold doP
    rw [if_neg (by rw [hk]; decide), if_neg (by show ¬ s.status = 0; rw [hs]; decide), if_neg (by show ¬ s.status ≠ 1; rw [hs]; simp), if_neg (by rw [hk]; decide), if_neg (by rw [hk]; decide), if_neg (by rw [hk]; decide), if_neg (by rw [hk]; decide), if_neg (by rw [hk]; decide), if_neg (by rw [hk]; decide), if_pos hk]
  rw [hd]
  unfold cancelP
  rw [if_neg (by omega)]
  refine ⟨rfl, ?_⟩
  show (endP nm ns ⟨s, q.now, [], []⟩ 4 q.text).st.status = 4
  unfold endP tellP
  rw [changeP_close (s := (⟨s, q.now, [], []⟩ : Rn).st) hs 4 q.text (.inr (.inr rfl))]

end

end Go.Proofs.YtfjekjbkifmpfabDoor
