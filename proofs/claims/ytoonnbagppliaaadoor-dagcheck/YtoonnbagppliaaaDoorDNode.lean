/-
  The reader: a node's line, all paths together.
-/
import Derived.Test.YtoonnbagppliaaaDoorDNodeA
import Derived.Test.YtoonnbagppliaaaDoorDNodeB
import Derived.Test.YtoonnbagppliaaaDoorDNodeC
import Derived.Test.YtoonnbagppliaaaDoorDNodeD
namespace Go.Proofs.YtoonnbagppliaaaDoor
open Go.RowKit

theorem pair {α β : Type} (p : α × β) : p = (p.1, p.2) := rfl

theorem take_true {s : ByteArray} {r : RS} (h : (rTake s r).1 = true) : rTake s r = (true, (rTake s r).2) := by rw [← h]
theorem take_false {s : ByteArray} {r : RS} (h : (rTake s r).1 = false) : rTake s r = (false, (rTake s r).2) := by rw [← h]

theorem rTail_no {r : RS} (h : (rTake aftB r).1 = false) : rTail r = ([], rEnd (rTake aftB r).2) := by
  unfold rTail; rw [h]; rfl
theorem rTail_yes {r : RS} (h : (rTake aftB r).1 = true) : rTail r = ((rNames (rTake aftB r).2).1, rEnd (rNames (rTake aftB r).2).2) := by
  unfold rTail; rw [h]; rfl

theorem node_any (w : World) (B rb : Nat) (r : RS) (R : RdAt w B rb r) (hlen : r.1.length ≤ 100000) :
    Calls Tryd.prog 38 #[.pointer (some ⟨rb, 0, none⟩)] w fun e w' => NodePost w B rb (rNode r) e w' := by
  have l0 := rName_len r
  have l1 := rWord_len (rName r).2
  unfold rNode
  generalize hx0 : (rName r).1 = x0
  generalize hq0 : (rName r).2 = q0 at *
  generalize hwd : (rWord q0).1 = wd
  generalize hq1 : (rWord q0).2 = q1 at *
  have e1 : rName r = (x0, q0) := by rw [pair (rName r), hx0, hq0]
  have e2 : rWord q0 = (wd, q1) := by rw [pair (rWord q0), hwd, hq1]
  have tail : ∀ (k : Int × ByteArray × ByteArray × Int × Int) (q : RS), q.1.length ≤ 100000 → rKind wd q1 = (k, q) →
      ((rTake aftB q).1 = false → Calls Tryd.prog 38 #[.pointer (some ⟨rb, 0, none⟩)] w fun e w' => NodePost w B rb (ndOf x0 k [], rEnd (rTake aftB q).2) e w') →
      ((rTake aftB q).1 = true → (rTake aftB q).2.1.length ≤ 100000 → Calls Tryd.prog 38 #[.pointer (some ⟨rb, 0, none⟩)] w fun e w' => NodePost w B rb (ndOf x0 k (rNames (rTake aftB q).2).1, rEnd (rNames (rTake aftB q).2).2) e w') →
      Calls Tryd.prog 38 #[.pointer (some ⟨rb, 0, none⟩)] w fun e w' => NodePost w B rb (ndOf x0 (rKind wd q1).1 (rTail (rKind wd q1).2).1, (rTail (rKind wd q1).2).2) e w' := by
    intro k q hq hk h1 h2
    rw [hk]
    cases ht : (rTake aftB q).1 with
    | false => rw [rTail_no ht]; exact h1 ht
    | true => rw [rTail_yes ht]; exact h2 ht (Nat.le_trans (rTake_len _ _) hq)
  have hq1l : q1.1.length ≤ 100000 := by omega
  by_cases ka : wd = actB
  · have hn := rName_len q1
    have ht := rTake_len triB (rName q1).2
    cases t1 : (rTake triB (rName q1).2).1 with
    | false =>
      have hu := rTake_len tmoB (rTake triB (rName q1).2).2
      cases t2 : (rTake tmoB (rTake triB (rName q1).2).2).1 with
      | false =>
        exact tail (1, (rName q1).1, ⟨#[]⟩, 0, 1) (rTake tmoB (rTake triB (rName q1).2).2).2 (by omega) (by unfold rKind; rw [if_pos ka]; simp only [t1, t2, Bool.false_eq_true, if_false]) (fun h => node_act000 w B rb r R e1 e2 ka rfl (take_false t1) (take_false t2) (take_false h)) (fun h hq => node_act001 w B rb r R e1 e2 ka rfl (take_false t1) (take_false t2) (take_true h) rfl hq)
      | true =>
        have hv := rNum_len (rTake tmoB (rTake triB (rName q1).2).2).2
        exact tail (1, (rName q1).1, ⟨#[]⟩, (rNum (rTake tmoB (rTake triB (rName q1).2).2).2).1, 1) (rNum (rTake tmoB (rTake triB (rName q1).2).2).2).2 (by omega) (by unfold rKind; rw [if_pos ka]; simp only [t1, t2, Bool.false_eq_true, if_false, if_true]) (fun h => node_act010 w B rb r R e1 e2 ka rfl (take_false t1) (take_true t2) rfl (take_false h)) (fun h hq => node_act011 w B rb r R e1 e2 ka rfl (take_false t1) (take_true t2) rfl (take_true h) rfl hq)
    | true =>
      have hm := rNum_len (rTake triB (rName q1).2).2
      have hu := rTake_len tmoB (rNum (rTake triB (rName q1).2).2).2
      cases t2 : (rTake tmoB (rNum (rTake triB (rName q1).2).2).2).1 with
      | false =>
        exact tail (1, (rName q1).1, ⟨#[]⟩, 0, (rNum (rTake triB (rName q1).2).2).1) (rTake tmoB (rNum (rTake triB (rName q1).2).2).2).2 (by omega) (by unfold rKind; rw [if_pos ka]; simp only [t1, t2, Bool.false_eq_true, if_false, if_true]) (fun h => node_act100 w B rb r R e1 e2 ka rfl (take_true t1) rfl (take_false t2) (take_false h)) (fun h hq => node_act101 w B rb r R e1 e2 ka rfl (take_true t1) rfl (take_false t2) (take_true h) rfl hq)
      | true =>
        have hv := rNum_len (rTake tmoB (rNum (rTake triB (rName q1).2).2).2).2
        exact tail (1, (rName q1).1, ⟨#[]⟩, (rNum (rTake tmoB (rNum (rTake triB (rName q1).2).2).2).2).1, (rNum (rTake triB (rName q1).2).2).1) (rNum (rTake tmoB (rNum (rTake triB (rName q1).2).2).2).2).2 (by omega) (by unfold rKind; rw [if_pos ka]; simp only [t1, t2, if_true]) (fun h => node_act110 w B rb r R e1 e2 ka rfl (take_true t1) rfl (take_true t2) rfl (take_false h)) (fun h hq => node_act111 w B rb r R e1 e2 ka rfl (take_true t1) rfl (take_true t2) rfl (take_true h) rfl hq)
  · by_cases kt : wd = timB
    · have hn := rNum_len q1
      exact tail (2, ⟨#[]⟩, ⟨#[]⟩, (rNum q1).1, 0) (rNum q1).2 (by omega) (by unfold rKind; rw [if_neg ka, if_pos kt]) (fun h => node_tim0 w B rb r R e1 e2 kt rfl (take_false h)) (fun h hq => node_tim1 w B rb r R e1 e2 kt rfl (take_true h) rfl hq)
    · by_cases kc : wd = chiB
      · have hn := rName_len q1
        exact tail (3, (rName q1).1, ⟨#[]⟩, 0, 0) (rName q1).2 (by omega) (by unfold rKind; rw [if_neg ka, if_neg kt, if_pos kc]) (fun h => node_chi0 w B rb r R e1 e2 kc rfl (take_false h)) (fun h hq => node_chi1 w B rb r R e1 e2 kc rfl (take_true h) rfl hq)
      · by_cases kw : wd = waiB
        · have hn := rName_len q1
          exact tail (4, (rName q1).1, ⟨#[]⟩, 0, 0) (rName q1).2 (by omega) (by unfold rKind; rw [if_neg ka, if_neg kt, if_neg kc, if_pos kw]) (fun h => node_wai0 w B rb r R e1 e2 kw rfl (take_false h)) (fun h hq => node_wai1 w B rb r R e1 e2 kw rfl (take_true h) rfl hq)
        · by_cases ks : wd = senB
          · have hn := rFlow_len q1
            have hm := rName_len (rFlow q1).2
            exact tail (5, (rName (rFlow q1).2).1, (rFlow q1).1, 0, 0) (rName (rFlow q1).2).2 (by omega) (by unfold rKind; rw [if_neg ka, if_neg kt, if_neg kc, if_neg kw, if_pos ks]) (fun h => node_sen0 w B rb r R e1 e2 ks rfl rfl (take_false h)) (fun h hq => node_sen1 w B rb r R e1 e2 ks rfl rfl (take_true h) rfl hq)
          · exact tail (0, ⟨#[]⟩, ⟨#[]⟩, 0, 0) (q1.1, true) (by simpa using hq1l) (by unfold rKind; rw [if_neg ka, if_neg kt, if_neg kc, if_neg kw, if_neg ks]) (fun h => node_bad0 w B rb r R e1 e2 ka kt kc kw ks (take_false h)) (fun h hq => node_bad1 w B rb r R e1 e2 ka kt kc kw ks (take_true h) rfl hq)

end Go.Proofs.YtoonnbagppliaaaDoor
