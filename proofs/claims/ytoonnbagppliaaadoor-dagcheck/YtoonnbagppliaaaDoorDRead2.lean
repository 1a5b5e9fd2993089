/-
  The reader: numbers, rows of names, lines that say nothing, the heading.
-/
import Derived.Test.YtoonnbagppliaaaDoorDRead
import Derived.Test.YtoonnbagppliaaaDoorDBeh
namespace Go.Proofs.YtoonnbagppliaaaDoor
open Go.RowKit

theorem str_lit (s : ByteArray) (l : List UInt8) : (s.toList == l) = decide (s = ⟨l.toArray⟩) := by
  have h := str_eq s ⟨l.toArray⟩
  rw [Lib.toList_data ⟨l.toArray⟩] at h
  exact h

def digitsB : ByteArray := ⟨#[48, 49, 50, 51, 52, 53, 54, 55, 56, 57]⟩
/-- A number's text in its one form. -/
def numP (s : ByteArray) : Bool := madeP s digitsB 15 && (decide (s = ⟨#[48]⟩) || !(s.data.toList.headD 0 == 48))
def numV (s : ByteArray) : Int := (Lib.atoi s.data.toList).getD 0
def rNum (r : RS) : Int × RS := if numP (rWord r).1 then (numV (rWord r).1, (rWord r).2) else (0, ((rWord r).2.1, true))

theorem digit_in {b : UInt8} (h : digitsB.data.toList.contains b = true) : ∃ d, Lib.digitVal b = some d := by
  have h2 : b = 48 ∨ b = 49 ∨ b = 50 ∨ b = 51 ∨ b = 52 ∨ b = 53 ∨ b = 54 ∨ b = 55 ∨ b = 56 ∨ b = 57 := by
    simp [digitsB] at h
    exact h
  rcases h2 with rfl | rfl | rfl | rfl | rfl | rfl | rfl | rfl | rfl | rfl <;> exact ⟨_, rfl⟩

theorem decFrom_some : ∀ (l : List UInt8) (acc : Nat), (l.all fun c => digitsB.data.toList.contains c) = true → ∃ n, Lib.decFrom acc l = some n
  | [], acc, _ => ⟨acc, rfl⟩
  | b :: r, acc, h => by
    rw [List.all_cons, Bool.and_eq_true] at h
    obtain ⟨d, hd⟩ := digit_in h.1
    obtain ⟨n, hn⟩ := decFrom_some r (acc * 10 + d) h.2
    refine ⟨n, ?_⟩
    unfold Lib.decFrom
    rw [hd]
    exact hn

theorem num_atoi {s : ByteArray} (h : madeP s digitsB 15 = true) : Lib.atoi s.data.toList = some (numV s) ∧ s.size ≤ 15 ∧ 0 ≤ numV s ∧ numV s < 1000000000000000000 := by
  unfold madeP at h
  simp only [Bool.and_eq_true, decide_eq_true_eq] at h
  obtain ⟨⟨h1, h2⟩, h3⟩ := h
  have hl : s.data.toList.length = s.size := by simp
  obtain ⟨n, hn⟩ := decFrom_some s.data.toList 0 h3
  cases hs : s.data.toList with
  | nil => rw [hs] at hl; simp at hl; omega
  | cons b r =>
    have hb : digitsB.data.toList.contains b = true := by rw [hs, List.all_cons, Bool.and_eq_true] at h3; exact h3.1
    have e1 : (b == 45) = false := by
      cases hh : (b == 45) with
      | false => rfl
      | true => rw [beq_iff_eq] at hh; subst hh; simp [digitsB] at hb
    have e2 : (b == 43) = false := by
      cases hh : (b == 43) with
      | false => rfl
      | true => rw [beq_iff_eq] at hh; subst hh; simp [digitsB] at hb
    have ha : Lib.atoi (b :: r) = some (n : Int) := by
      simp only [Lib.atoi, e1, e2, Bool.false_eq_true, if_false]
      rw [hs] at hn
      unfold Lib.decNat
      rw [hn]
      rfl
    have hv : numV s = (n : Int) := by unfold numV; rw [hs, ha]; rfl
    have hlt := Lib.decFrom_lt18 hn (by omega)
    rw [hv]
    exact ⟨ha, by omega, by omega, by omega⟩

set_option maxRecDepth 100000 in
set_option maxHeartbeats 1000000 in
theorem num_any (w : World) (s : ByteArray) :
    Calls Tryd.prog 55 #[.string s] w fun e w' => e = .returned (.bool (numP s)) ∧ w' = w := by
  have h := made_any w s digitsB 15 (by decide)
  have he : (s.toList == [48]) = decide (s = (⟨#[48]⟩ : ByteArray)) := str_lit s [48]
  unfold numP
  cases g : madeP s digitsB 15 with
  | false =>
    rw [g] at h
    unfold digitsB at h
    simp only [Bool.false_and]
    go_enter Tryd.func55, Tryd.ntmps55
    go_wp2_with (first
      | (go_at_call 19; refine h.mono ?_; rintro e w1 ⟨rfl, rfl⟩; clear h)
      | fail)
    go_ret
    exact ⟨rfl, rfl⟩
  | true =>
    obtain ⟨_, hsz, _⟩ := num_atoi g
    have h0 : 0 < s.size := by
      unfold madeP at g
      simp only [Bool.and_eq_true, decide_eq_true_eq] at g
      omega
    have hix : ∀ W, (Instr.index 9 (.string s) (.int .i64 0)).run Tryd.prog W = .ok (.int .u8 (((s[0]'h0).toNat : Nat) : Int)) W := fun W => by
      rw [run_index_string W _ _ _ _ Tryd.underlying9]
      rw [dif_pos ⟨by omega, by omega⟩]
      simp
    have hhd : s.data.toList.headD 0 = s[0]'h0 := by
      have hl : 0 < s.data.toList.length := by simpa using h0
      cases hs : s.data.toList with
      | nil => rw [hs] at hl; simp at hl
      | cons b r =>
        have : s.data.toList[0] = b := by simp [hs]
        rw [← this]
        rfl
    have hbq : ((((s[0]'h0).toNat : Nat) : Int) == 48) = (s.data.toList.headD 0 == 48) := by
      rw [hhd, Bool.eq_iff_iff, beq_iff_eq, beq_iff_eq]
      constructor
      · intro h; apply UInt8.toNat_inj.1; show _ = 48; omega
      · intro h; rw [h]; rfl
    rw [g] at h
    unfold digitsB at h
    simp only [Bool.true_and]
    generalize (s.data.toList.headD 0 == 48) = y at *
    generalize (((s[0]'h0).toNat : Nat) : Int) = z at *
    cases gs : decide (s = (⟨#[48]⟩ : ByteArray)) with
    | true =>
      rw [gs] at he
      go_enter Tryd.func55, Tryd.ntmps55
      go_wp2_with (first
        | (go_at_call 19; refine h.mono ?_; rintro e w1 ⟨rfl, rfl⟩; clear h)
        | fail)
      go_ret
      exact ⟨rfl, rfl⟩
    | false =>
      rw [gs] at he
      cases y <;>
      · go_enter Tryd.func55, Tryd.ntmps55
        go_wp2_with (first
          | (go_at_call 19; refine h.mono ?_; rintro e w1 ⟨rfl, rfl⟩; clear h)
          | fail)
        go_ret
        refine ⟨?_, rfl⟩
        show Ending.returned (.bool (z != 48)) = _
        unfold bne
        rw [hbq]
        rfl

theorem bytesKept (S : Nat → Prop) (w : World) (e : TypeId) (s : ByteArray) : Kept S w (Lib.bytesWorld w e s) :=
  let h := Go.Joins.below_bytesWorld w.heap.size w e s (Nat.le_refl _)
  ⟨h.os, h.tape, h.output, h.size, fun k hk _ => h.block k hk⟩

set_option maxRecDepth 100000 in
set_option maxHeartbeats 1000000 in
theorem rnum_any (w : World) (B rb : Nat) (r : RS) (R : RdAt w B rb r) :
    Calls Tryd.prog 50 #[.pointer (some ⟨rb, 0, none⟩)] w fun e w' => e = .returned (.int .i64 (rNum r).1) ∧ RdAt w' B rb (rNum r).2 ∧ Kept (fun j => j = rb) w w' := by
  have h1 := word_any w B rb r R
  have h2 := fun W => num_any W (rWord r).1
  unfold rNum
  clear R
  generalize (rWord r).1 = x at *
  generalize (rWord r).2 = q at *
  obtain ⟨ws, b⟩ := q
  cases g : numP x with
  | false =>
    rw [g] at h2
    simp only [Bool.false_eq_true, if_false] at h1 ⊢
    go_enter Tryd.func50, Tryd.ntmps50
    go_wp2_with (first
      | (go_at_call 49; refine h1.mono ?_; rintro e w1 ⟨rfl, R1, K1⟩; obtain ⟨_, _, _, y1, _, z1, _⟩ := R1.cells; have HR1 : Hid _ := R1; clear h1 R1)
      | (go_at_call 55; refine (h2 _).mono ?_; rintro e w2 ⟨rfl, rfl⟩; clear h2)
      | fail)
    go_ret
    exact ⟨rfl, HR1.out.mark true, K1.and (Kept.setCell _ _ _ rfl)⟩
  | true =>
    rw [g] at h2
    have hm : madeP x digitsB 15 = true := by
      unfold numP at g
      rw [Bool.and_eq_true] at g
      exact g.1
    obtain ⟨ha, hsz, _, _⟩ := num_atoi hm
    have h3 := fun W => Any.strconv_Atoi Tryd.atoiL x (numV x) (by omega) ha W
    simp only [if_true] at h1 ⊢
    generalize numV x = v at *
    clear ha hm g
    go_enter Tryd.func50, Tryd.ntmps50
    go_wp2_with (first
      | (go_at_call 49; refine h1.mono ?_; rintro e w1 ⟨rfl, R1, K1⟩; have HR1 : Hid _ := R1; clear h1 R1)
      | (go_at_call 55; refine (h2 _).mono ?_; rintro e w2 ⟨rfl, rfl⟩; clear h2)
      | (go_at_call 56; refine (h3 _).mono ?_; rintro e w3 ⟨rfl, t, rfl⟩; clear h3)
      | fail)
    go_ret
    have K3 := bytesKept (fun _ => False) w2 5 t
    exact ⟨rfl, HR1.out.kept K3 (fun _ _ h => h), K1.and (K3.mono (fun _ h => h.elim))⟩

end Go.Proofs.YtoonnbagppliaaaDoor
