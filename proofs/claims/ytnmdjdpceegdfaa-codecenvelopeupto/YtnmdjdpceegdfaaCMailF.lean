/-
  A mail's form, and an envelope's.
-/
import Derived.Test.YtnmdjdpceegdfaaCMailR
import Derived.Test.YtnmdjdpceegdfaaCForm
import Derived.Test.YtnmdjdpceegdfaaCEventX
namespace Go.Proofs.Ytnmdjdpceegdfaa
open Go.RowKit

def wrNo (x : PartsD) : Option (List Int) := if x.1.toList = [] ∧ x.2.1.toList = [] ∧ x.2.2.1.toList = [] ∧ x.2.2.2.1.toList = [] ∧ x.2.2.2.2.1.toList = [] ∧ x.2.2.2.2.2 = 0 then some [] else none

def wrParts : PartsD → Option (List Int) := wrBind wrText (fun _ => wrBind wrText (fun _ => wrBind wrText (fun _ => wrBind wrText (fun _ => wrBind wrText (fun _ => wrNum 0 4)))))

theorem noForm : Form rdNo wrNo := by
  have hn : ∀ v : PartsD, ∀ e, wrNo v = some e → e = [] ∧ v = noParts := by
    intro v e h
    unfold wrNo at h
    split at h
    · rename_i hc
      obtain ⟨a, b, c, d, f, g⟩ := v
      obtain ⟨h1, h2, h3, h4, h5, h6⟩ := hc
      cases h
      simp only [] at h1 h2 h3 h4 h5 h6
      rw [toList_nil h1, toList_nil h2, toList_nil h3, toList_nil h4, toList_nil h5, h6]
      exact ⟨rfl, rfl⟩
    · cases h
  have nil : (⟨#[]⟩ : ByteArray).toList = [] := by rw [ByteArray.toList_eq]
  refine ⟨?_, ?_, ?_, ?_⟩
  · intro raw at_ v at' hb hat h
    unfold rdNo at h
    cases h
    refine ⟨[], ?_, rfl, hat, by simp⟩
    unfold wrNo noParts
    rw [if_pos ⟨nil, nil, nil, nil, nil, rfl⟩]
  · intro pre enc post v h
    obtain ⟨rfl, rfl⟩ := hn v enc h
    simp [rdNo]
  · intro pre enc v k h hk
    obtain ⟨rfl, rfl⟩ := hn v enc h
    simp at hk
  · intro v enc h
    obtain ⟨rfl, rfl⟩ := hn v enc h
    intro y hy
    cases hy

theorem partsForm : Form rdParts wrParts :=
  textForm.bind (fun _ _ => textForm.bind (fun _ _ => textForm.bind (fun _ _ => textForm.bind (fun _ _ => textForm.bind (fun _ _ => numForm (by decide) (by decide))))))

theorem wrMail_bind (x : Int × PartsD) : wrMail x.1 x.2.1 x.2.2.1 x.2.2.2.1 x.2.2.2.2.1 x.2.2.2.2.2.1 x.2.2.2.2.2.2 = wrBind (wrNum 0 4) (fun k => if k = 0 then wrNo else wrParts) x := by
  obtain ⟨k, to, fr, nd, nm, tx, s⟩ := x
  simp only []
  by_cases hk : k = 0
  · subst hk
    unfold wrBind wrMail
    rw [numB_zero]
    simp only [if_true]
    by_cases h : isNone 0 to fr nd nm tx s
    · rw [if_pos h]
      unfold wrNo
      rw [if_pos h.2]
      rfl
    · rw [if_neg h]
      unfold wrNo
      rw [if_neg (fun hc => h ⟨rfl, hc⟩)]
  · have h := wrMail_some (st := some []) (to := to) (fr := fr) (nd := nd) (nm := nm) (tx := tx) (s := s) hk
    rw [some_put, some_put, wrNum_14 hk] at h
    rw [h]
    unfold wrBind
    simp only [if_neg hk]
    simp only [put_assoc']
    have e : wrParts (to, fr, nd, nm, tx, s) = put (wrText to) (put (wrText fr) (put (wrText nd) (put (wrText nm) (put (wrText tx) (wrNum 0 4 s))))) := by
      unfold wrParts
      rw [put_bind wrText (wrNum 0 4) (tx, s), put_bind wrText _ (nm, tx, s), put_bind wrText _ (nd, nm, tx, s), put_bind wrText _ (fr, nd, nm, tx, s), put_bind wrText _ (to, fr, nd, nm, tx, s)]
    rw [← e]
    cases wrNum 0 4 k <;> cases wrParts (to, fr, nd, nm, tx, s) <;> rfl

theorem mailForm : Form rdMail (fun x => wrMail x.1 x.2.1 x.2.2.1 x.2.2.2.1 x.2.2.2.2.1 x.2.2.2.2.2.1 x.2.2.2.2.2.2) := by
  rw [show (fun x : Int × PartsD => wrMail x.1 x.2.1 x.2.2.1 x.2.2.2.1 x.2.2.2.2.1 x.2.2.2.2.2.1 x.2.2.2.2.2.2) = wrBind (wrNum 0 4) (fun k => if k = 0 then wrNo else wrParts) from funext wrMail_bind]
  refine (numForm (by decide) (by decide)).bind (fun k _ => ?_)
  by_cases hk : k = 0
  · rw [if_pos hk, if_pos hk]; exact noForm
  · rw [if_neg hk, if_neg hk]; exact partsForm

theorem mail_len {k : Int} {to fr nd nm tx : ByteArray} {s : Int} {q : List Int} (h : wrMail k to fr nd nm tx s = some q) : q.length ≤ 5243000 := by
  by_cases hk : k = 0
  · unfold wrMail at h
    rw [if_pos hk] at h
    split at h
    · cases h; decide
    · cases h
  · have h' := wrMail_some (st := some []) (to := to) (fr := fr) (nd := nd) (nm := nm) (tx := tx) (s := s) hk
    rw [some_put, some_put, h] at h'
    obtain ⟨a6, b6, h6, hb6, rfl⟩ := put_some h'.symm
    obtain ⟨a5, b5, h5, hb5, rfl⟩ := put_some h6
    obtain ⟨a4, b4, h4, hb4, rfl⟩ := put_some h5
    obtain ⟨a3, b3, h3, hb3, rfl⟩ := put_some h4
    obtain ⟨a2, b2, h2, hb2, rfl⟩ := put_some h3
    obtain ⟨a1, b1, h1, hb1, rfl⟩ := put_some h2
    have e1 := (wrNum_len h1).1
    have e2 := (text_len hb1).1
    have e3 := (text_len hb2).1
    have e4 := (text_len hb3).1
    have e5 := (text_len hb4).1
    have e6 := (text_len hb5).1
    have e7 := (wrNum_len hb6).1
    simp only [List.length_append]
    omega

theorem mail_parts {k : Int} {to fr nd nm tx : ByteArray} {s : Int} {q : List Int} (h : wrMail k to fr nd nm tx s = some q) : to.size ≤ 1048576 ∧ fr.size ≤ 1048576 ∧ nd.size ≤ 1048576 ∧ nm.size ≤ 1048576 ∧ tx.size ≤ 1048576 := by
  by_cases hk : k = 0
  · unfold wrMail at h
    rw [if_pos hk] at h
    split at h
    · rename_i hc
      obtain ⟨_, h1, h2, h3, h4, h5, _⟩ := hc
      rw [toList_nil h1, toList_nil h2, toList_nil h3, toList_nil h4, toList_nil h5]
      decide
    · cases h
  · have h' := wrMail_some (st := some []) (to := to) (fr := fr) (nd := nd) (nm := nm) (tx := tx) (s := s) hk
    rw [some_put, some_put, h] at h'
    obtain ⟨a6, b6, h6, hb6, rfl⟩ := put_some h'.symm
    obtain ⟨a5, b5, h5, hb5, rfl⟩ := put_some h6
    obtain ⟨a4, b4, h4, hb4, rfl⟩ := put_some h5
    obtain ⟨a3, b3, h3, hb3, rfl⟩ := put_some h4
    obtain ⟨a2, b2, h2, hb2, rfl⟩ := put_some h3
    obtain ⟨a1, b1, h1, hb1, rfl⟩ := put_some h2
    exact ⟨(text_len hb1).2, (text_len hb2).2, (text_len hb3).2, (text_len hb4).2, (text_len hb5).2⟩

end Go.Proofs.Ytnmdjdpceegdfaa
