/-
  An event: written by the document; its form.
-/
import Derived.Test.YtnmdjdpceegdfaaCRefText
import Derived.Test.YtnmdjdpceegdfaaCEvent
import Derived.Test.YtnmdjdpceegdfaaCForm
import Derived.Test.YtnmdjdpceegdfaaCLease
import Derived.Test.YtnmdjdpceegdfaaCRdEvent
namespace Go.Proofs.Ytnmdjdpceegdfaa
open Go.RowKit

set_option maxRecDepth 100000 in
set_option maxHeartbeats 400000 in
theorem refEvent_any (w : World) (k : Int) (nd tx : ByteArray) (nm : Int) (hnd : nd.size ≤ 1048576) (htx : tx.size ≤ 1048576) :
    Calls Try.prog 10 #[.agg #[.int .i64 k, .string nd, .string tx, .int .i64 nm]] w fun e w' => ∃ a l c er, e = .returned (.tuple #[.slice a l c, .int .i64 er]) ∧ Ans w' w.heap.size (wrEvent k nd tx nm) a l c er ∧ Kept (fun _ => False) w w' := by
  have hcs : ∀ (w' : World), Kept (fun k => w.heap.size + 1 ≤ k) (w.alloc (.cells #[.int .i64 k, .string nd, .string tx, .int .i64 nm] 23)) w' →
      w'.cell? ⟨w.heap.size, 0, none⟩ = some (.int .i64 k) ∧ w'.cell? ⟨w.heap.size, 1, none⟩ = some (.string nd) ∧ w'.cell? ⟨w.heap.size, 2, none⟩ = some (.string tx) ∧ w'.cell? ⟨w.heap.size, 3, none⟩ = some (.int .i64 nm) := fun w' K =>
    ⟨box_cells K (by omega) 0 _ rfl, box_cells K (by omega) 1 _ rfl, box_cells K (by omega) 2 _ rfl, box_cells K (by omega) 3 _ rfl⟩
  have hW := WIn.new (w.alloc (.cells #[.int .i64 k, .string nd, .string tx, .int .i64 nm] 23)) 72
  have hsz : (w.alloc (.cells #[.int .i64 k, .string nd, .string tx, .int .i64 nm] 23)).heap.size = w.heap.size + 1 := by simp
  rw [hsz] at hW
  have HE : Hid (wrEvent k nd tx nm = put (put (put (put (some []) (wrNum 1 15 k)) (wrText nd)) (wrText tx)) (wrSig nm)) := by rw [some_put]; rfl
  have hN := xnum_any hW k 1 15 (by decide) (by decide) (by decide)
  generalize put (some []) (wrNum 1 15 k) = s1 at *
  have K0 : Kept (fun k => w.heap.size + 1 ≤ k) (w.alloc (.cells #[.int .i64 k, .string nd, .string tx, .int .i64 nm] 23)) ((w.alloc (.cells #[.int .i64 k, .string nd, .string tx, .int .i64 nm] 23)).alloc (.cells #[.slice none 0 0, .bool false] 72)) := Kept.alloc _ _ _
  obtain ⟨b0, b1, b2, b3⟩ := hcs _ K0
  clear hW
  go_enter Try.func10, Try.ntmps10
  go_wp2_with (first
    | (go_at_call 39; refine hN.mono ?_; rintro e w1 ⟨rfl, I1, K1⟩; have K01 := K0.and K1.k; obtain ⟨_, c1, c2, c3⟩ := hcs _ K01; clear hN K0 K1)
    | (go_at_call 40; have _t := I1; refine (xtext_any I1 nd hnd (by decide)).mono ?_; rintro e w2 ⟨rfl, I2, K2⟩; have K02 := K01.and K2.k; obtain ⟨_, d1, d2, d3⟩ := hcs _ K02; clear I1 K01 K2 c1 c2 c3)
    | (go_at_call 40; refine (xtext_any I2 tx htx (by decide)).mono ?_; rintro e w3 ⟨rfl, I3, K3⟩; have K03 := K02.and K3.k; obtain ⟨_, e1, e2, e3⟩ := hcs _ K03; clear I2 K02 K3 d1 d2 d3)
    | (go_at_call 41; refine (xsigned_any I3 nm (by decide)).mono ?_; rintro e w4 ⟨rfl, I4, K4⟩; have K04 := K03.and K4.k; clear I3 K03 K4)
    | (go_at_call 42; refine (xdone_any I4).mono ?_; rintro e w5 ⟨a, l, c, er, rfl, hA, hw⟩; subst hw)
    | fail)
  go_ret2
  rw [HE.out]
  exact ⟨a, l, c, er, rfl, hA.mono (by omega), (Kept.alloc _ w _).trans K04 (fun k h => .inr (by omega))⟩

theorem eventForm : Form rdEvent (fun x => wrEvent x.1 x.2.1 x.2.2.1 x.2.2.2) := by
  have h : (fun x : EventD => wrEvent x.1 x.2.1 x.2.2.1 x.2.2.2) = wrBind (wrNum 1 15) (fun _ => wrBind wrText (fun _ => wrBind wrText (fun _ => wrSig))) := by
    funext x
    unfold wrEvent
    rw [put_assoc, put_assoc, put_bind wrText wrSig x.2.2, put_bind wrText (wrBind wrText (fun _ => wrSig)) x.2]
    exact put_bind (wrNum 1 15) _ x
  rw [h]
  exact (numForm (by decide) (by decide)).bind (fun _ _ => textForm.bind (fun _ _ => textForm.bind (fun _ _ => sigForm)))

theorem text_len {s : ByteArray} {q : List Int} (h : wrText s = some q) : q.length ≤ 1048584 ∧ s.size ≤ 1048576 := by
  unfold wrText at h
  cases hw : wrNum 0 1048576 (s.size : Int) with
  | none => rw [hw] at h; cases h
  | some p =>
    rw [hw] at h
    simp only [Option.map_some, Option.some.injEq] at h
    subst h
    have := wrNum_len hw
    rw [List.length_append, bts_length]
    omega

theorem event_len {k nm : Int} {nd tx : ByteArray} {q : List Int} (h : wrEvent k nd tx nm = some q) : q.length ≤ 2097300 := by
  obtain ⟨x3, y3, h3, hy3, rfl⟩ := put_some h
  obtain ⟨x2, y2, h2, hy2, rfl⟩ := put_some h3
  obtain ⟨x1, y1, h1, hy1, rfl⟩ := put_some h2
  have e1 := (wrNum_len h1).1
  have e2 := (text_len hy1).1
  have e3 := (text_len hy2).1
  have e4 := (wrNum_len hy3).1
  simp only [List.length_append]
  omega

theorem event_parts {k nm : Int} {nd tx : ByteArray} {q : List Int} (h : wrEvent k nd tx nm = some q) : nd.size ≤ 140737488355328 ∧ tx.size ≤ 140737488355328 ∧ isI64 nm := by
  obtain ⟨x3, y3, h3, hy3, rfl⟩ := put_some h
  obtain ⟨x2, y2, h2, hy2, rfl⟩ := put_some h3
  obtain ⟨x1, y1, h1, hy1, rfl⟩ := put_some h2
  have e2 := (text_len hy1).2
  have e3 := (text_len hy2).2
  exact ⟨by omega, by omega, sig_i64 hy3⟩

end Go.Proofs.Ytnmdjdpceegdfaa
