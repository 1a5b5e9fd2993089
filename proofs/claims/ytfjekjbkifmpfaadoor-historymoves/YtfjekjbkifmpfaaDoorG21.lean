/-
  end: a workflow is closed; its children and its parent are told.
-/
import Derived.Test.YtfjekjbkifmpfaaDoorG17
import Derived.Deep.Cut
namespace Go.Proofs.YtfjekjbkifmpfaaDoor
open Go.RowKit

def cancelB (ns : List Nd) (s : St) (i : Nat) : Bool := match ns[i]?, s.nodes[i]? with
  | some x, some y => (x.kind == 3) && (y.status == 2)
  | _, _ => false

def cancelT (ns : List Nd) (s : St) (tx : ByteArray) (i : Nat) : Tk := msgP s.id ⟨4, childP s.id ((ns[i]?.map (fun x => x.name)).getD ⟨#[]⟩), ⟨#[]⟩, (ns[i]?.map (fun x => x.name)).getD ⟨#[]⟩, ⟨#[]⟩, tx, 0⟩

/-- The mails to children that are busy, of the first k nodes. -/
def cancelL (ns : List Nd) (s : St) (tx : ByteArray) (k : Nat) : List Tk := ((List.range k).filter (cancelB ns s)).map (cancelT ns s tx)

theorem cancelL_next (ns : List Nd) (s : St) (tx : ByteArray) (k : Nat) : cancelL ns s tx (k + 1) = cancelL ns s tx k ++ if cancelB ns s k = true then [cancelT ns s tx k] else [] := by
  unfold cancelL
  rw [List.range_succ, List.filter_append, List.map_append]
  by_cases h : cancelB ns s k = true
  · rw [if_pos h]
    simp [h]
  · rw [if_neg h]
    simp [h]

theorem cancelL_len (ns : List Nd) (s : St) (tx : ByteArray) (k : Nat) : (cancelL ns s tx k).length ≤ k := by
  unfold cancelL
  rw [List.length_map]
  exact Nat.le_trans (List.length_filter_le _ _) (by simp)

def mailsP (ns : List Nd) (s : St) (st : Int) (tx : ByteArray) : List Tk := cancelL ns s tx (min ns.length s.nodes.length) ++ if s.par = ⟨#[]⟩ then [] else [msgP s.id ⟨2, s.par, ⟨#[]⟩, s.pnode, ⟨#[]⟩, tx, st⟩]

def endP (nm : ByteArray) (ns : List Nd) (r : Rn) (st : Int) (tx : ByteArray) : Rn := tellP nm ns r ⟨15, ⟨#[]⟩, tx, st⟩ (mailsP ns r.st st tx)

theorem own_slBlk {w : World} {B T sz n : Nat} {v : Value} {xs : List Value} (h : w.ownsRow B T sz v n xs) {g : Nat} (hg : slBlk v = some g) : B ≤ g := by
  rcases h.2 with ⟨h0, _⟩ | ⟨g', cap, cur, rfl, hb, _⟩
  · rw [h0] at hg; cases hg
  · obtain rfl : g' = g := by simpa [slBlk] using hg
    exact hb

theorem firstC {w : World} {b : Nat} {T : TypeId} {cs : Array Value} {u : Value} (h : w.heap[b]? = some (.cells cs T (0, 0))) (h0 : cs[0]? = some u) : w.cell? ⟨b, 0, none⟩ = some u := by
  simp [World.cell?, h, h0]

set_option maxRecDepth 100000 in
set_option maxHeartbeats 8000000 in
theorem end_any {w0 w : World} {H : Nat → Prop} {rb : Nat} {nm : ByteArray} {a : Option Addr} {c : Nat} {ns : List Nd} {r : Rn} {m : Nat} (E : Env w0 w H a ns) (R : RAt w H rb nm a ns.length c r) (F : Fit r m) (hm : m ≤ 1000000) (hn : ns.length ≤ 999999) (st : Int) (tx : ByteArray) :
    Calls Tryd.prog 81 #[.pointer (some ⟨rb, 0, none⟩), .int .i64 st, .string tx] w fun e w' => e = .returned (.tuple #[]) ∧ RGoes w H rb nm a ns.length c (endP nm ns r st tx) w' := by
  obtain ⟨v6, v7, v12, v13, hb, hn6, _, _, _, htop⟩ := R.opened
  obtain ⟨a6, c6, rfl⟩ := ownsRow_shape hn6
  obtain ⟨x0, x1, x2, x3, x4, x5, x6, x7, x8, x9, x10, _⟩ := runCells hb
  have hNb := E.here.1
  have HB := hid hb
  have HN6 := hid hn6
  have HE := hid E
  have HR := hid R
  have HF := hid F
  have HN := hid hNb
  have Ht := hid htop
  have hC := both_any w.drew nm a ns.length c r.st a6 r.st.nodes.length c6 v7
  clear hb hn6 E R F hNb htop
  go_enter Tryd.func81, Tryd.ntmps81
  go_upto_region 1 with fail
  refine wp_onlyN (en1 _ x0 x1 x2 x3 x4 x5 x6 x7 x8 x9 x10 hC ?_)
  intro _ _ _ _ _ _ _ _ w5 K5
  clear x0 x1 x2 x3 x4 x5 x6 x7 x8 x9 x10 hC
  go_wp2_with fail
  go_loopw [6, 18] (fun v i wr => ∃ (k : Nat) (a7 : Option Addr) (c7 : Nat), k ≤ min ns.length r.st.nodes.length ∧ i = .int .i64 k ∧ v = .slice a7 (cancelL ns r.st tx k).length c7 ∧ wr.ownsRow w.heap.size 78 13 (.slice a7 (cancelL ns r.st tx k).length c7) (cancelL ns r.st tx k).length (tkF (cancelL ns r.st tx k)) ∧ Kept (fun _ => False) w wr) (fun _ i _ => min ns.length r.st.nodes.length - (intOf i).toNat)
  case atStart => exact ⟨0, none, 0, Nat.zero_le _, rfl, rfl, World.ownsRow_nil _ _ _ _, K5⟩
  case round =>
    obtain ⟨k, a7, c7, hk, rfl, rfl, OR, K⟩ := hrel
    by_cases hlt : k < min ns.length r.st.nodes.length
    · have hl1 : k < ns.length := by omega
      have hl2 : k < r.st.nodes.length := by omega
      have e0 : (k : Int) < ((min ns.length r.st.nodes.length : Nat) : Int) := by omega
      have e1 : (k : Int) < (ns.length : Int) := by omega
      have e2 : (k : Int) < (r.st.nodes.length : Int) := by omega
      obtain ⟨_, x1, _, _, _, _, _, _, x8, _⟩ := runCells ((K.block rb (Array.getElem?_eq_some_iff.1 HB.out).1 (fun h => h)).trans HB.out)
      obtain ⟨b, o, av, cv, hae, hT, c0, c1, c2, c3, c4, c5, c6'⟩ := (keptNew K HN.out).at hl1
      subst hae
      have hn7 := ownsRow_keep HN6.out (fun g hg => K.block g (ownsRow_blk HN6.out hg) (fun h => h))
      obtain ⟨g6, cg, hv, _, _, hrow⟩ := row_at hn7 (by omega)
      obtain ⟨rfl, rfl⟩ : a6 = some ⟨g6, 0, none⟩ ∧ c6 = cg := by simpa using hv
      have q0 := (hrow _ _ (nsF_get hl2).1).1
      have KA : Kept (fun _ => False) wr (wr.alloc (.cells #[.string (ns[k]).name, .int .i64 (ns[k]).kind, .string (ns[k]).arg, .string (ns[k]).«to», .int .i64 (ns[k]).delay, .int .i64 (ns[k]).tries, .slice av (ns[k]).after.length cv] 64)) := Kept.alloc _ _ _
      have q0' := keepC KA q0 (fun _ _ h => h)
      have x8' := keepC KA x8 (fun _ _ h => h)
      have hn0 : (wr.alloc (.cells #[.string (ns[k]).name, .int .i64 (ns[k]).kind, .string (ns[k]).arg, .string (ns[k]).«to», .int .i64 (ns[k]).delay, .int .i64 (ns[k]).tries, .slice av (ns[k]).after.length cv] 64)).cell? ⟨wr.heap.size, 0, none⟩ = some (.string (ns[k]).name) := firstC (heap_alloc_new _ _) rfl
      have hcb : cancelB ns r.st k = (((ns[k]).kind == 3) && ((r.st.nodes[k]).status == 2)) := by unfold cancelB; rw [List.getElem?_eq_getElem hl1, List.getElem?_eq_getElem hl2]
      have hct : cancelT ns r.st tx k = msgP r.st.id ⟨4, childP r.st.id (ns[k]).name, ⟨#[]⟩, (ns[k]).name, ⟨#[]⟩, tx, 0⟩ := by unfold cancelT; rw [List.getElem?_eq_getElem hl1]; rfl
      have hnx := cancelL_next ns r.st tx k
      have hlen := cancelL_len ns r.st tx k
      have hsz := HE.out.names _ (List.getElem_mem hl1)
      rw [hcb, hct] at hnx
      have HNx := hid hnx
      have HK := hid K
      have HOR := hid OR
      have HKA := hid KA
      have ORA := hid (OR.alloc (.cells #[.string (ns[k]).name, .int .i64 (ns[k]).kind, .string (ns[k]).arg, .string (ns[k]).«to», .int .i64 (ns[k]).delay, .int .i64 (ns[k]).tries, .slice av (ns[k]).after.length cv] 64))
      clear hT hn7 hrow q0 hcb hct hnx K OR KA
      have step0 : (((ns[k]).kind == 3) && ((r.st.nodes[k]).status == 2)) = false → ∃ (k1 : Nat) (a1 : Option Addr) (d1 : Nat), k1 ≤ min ns.length r.st.nodes.length ∧ Value.int .i64 ((k : Int) + 1) = .int .i64 k1 ∧ Value.slice a7 (cancelL ns r.st tx k).length c7 = .slice a1 (cancelL ns r.st tx k1).length d1 ∧ (wr.alloc (.cells #[.string (ns[k]).name, .int .i64 (ns[k]).kind, .string (ns[k]).arg, .string (ns[k]).«to», .int .i64 (ns[k]).delay, .int .i64 (ns[k]).tries, .slice av (ns[k]).after.length cv] 64)).ownsRow w.heap.size 78 13 (.slice a1 (cancelL ns r.st tx k1).length d1) (cancelL ns r.st tx k1).length (tkF (cancelL ns r.st tx k1)) ∧ Kept (fun _ => False) w (wr.alloc (.cells #[.string (ns[k]).name, .int .i64 (ns[k]).kind, .string (ns[k]).arg, .string (ns[k]).«to», .int .i64 (ns[k]).delay, .int .i64 (ns[k]).tries, .slice av (ns[k]).after.length cv] 64)) := fun hf => by
        have h := HNx.out
        rw [hf, if_neg (by decide), List.append_nil] at h
        exact ⟨k + 1, a7, c7, by omega, rfl, by rw [h], by rw [h]; exact ORA.out, HK.out.and HKA.out⟩
      have HS0 := hid step0
      clear step0
      cases b1 : ((ns[k]).kind == 3) with
      | false =>
        go_wp2_with (first | go_quiet (fail) | fail)
        go_roundw
        case rel => exact HS0.out (by rw [b1]; rfl)
        case measure => simp [intOf]; omega
      | true =>
        cases b2 : ((r.st.nodes[k]).status == 2) with
        | false =>
          go_wp2_with (first | go_quiet (fail) | fail)
          go_roundw
          case rel => exact HS0.out (by rw [b1, b2]; rfl)
          case measure => simp [intOf]; omega
        | true =>
          clear HS0
          go_upto_region 6 with (first | go_quiet (fail) | fail)
          refine wp_onlyN (en6 (B := w.heap.size) (t := msgP r.st.id ⟨4, childP r.st.id (ns[k]).name, ⟨#[]⟩, (ns[k]).name, ⟨#[]⟩, tx, 0⟩) (x := (ns[k]).name) (y := childP r.st.id (ns[k]).name) _ hn0 (fun V KV => childName_any V H rb nm _ _ c r (HR.out.new ((HK.out.and HKA.out).and KV)) (ns[k]).name (by have := HF.out.idsz; omega)) (Nat.le_trans HK.out.size HKA.out.size) (by omega) ORA.out (fun V KV => message_any V H rb nm _ _ c r (HR.out.new ((HK.out.and HKA.out).and KV)) ⟨4, childP r.st.id (ns[k]).name, ⟨#[]⟩, (ns[k]).name, ⟨#[]⟩, tx, 0⟩) ?_)
          intro _ _ _ _ _ _ _ _ _ _ _ _ _ a4 c4x w4 o4 K4
          have HO4 := hid o4
          have HK4 : Hid (Kept (fun _ => False) w w4) := (HK.out.and HKA.out).trans K4 (fun i h => .inr h)
          clear o4 K4 x1 x8 c0 c1 c2 c3 c4 c5 c6' q0' x8' hn0
          go_wp2_with fail
          go_roundw
          case rel =>
            have h := HNx.out
            rw [b1, b2, if_pos (show (true && true) = true from rfl)] at h
            refine ⟨k + 1, a4, c4x, by omega, by go_num, by rw [h, List.length_append]; rfl, ?_, HK4.out⟩
            rw [h, List.length_append, tkF_add]
            exact HO4.out
          case measure => simp [intOf]; omega
    · obtain rfl : k = min ns.length r.st.nodes.length := by omega
      have e0 : ¬ (((min ns.length r.st.nodes.length : Nat) : Int) < ((min ns.length r.st.nodes.length : Nat) : Int)) := by omega
      obtain ⟨_, _, _, _, x4, x5, _⟩ := runCells ((K.block rb (Array.getElem?_eq_some_iff.1 HB.out).1 (fun h => h)).trans HB.out)
      have hlen := cancelL_len ns r.st tx (min ns.length r.st.nodes.length)
      have HK := hid K
      have HOR := hid OR
      clear K OR
      by_cases hp : r.st.par = ⟨#[]⟩
      · have hmp : mailsP ns r.st st tx = cancelL ns r.st tx (min ns.length r.st.nodes.length) := by unfold mailsP; rw [if_pos hp, List.append_nil]
        rw [hp] at x4
        have hT := tellE (HE.out.new HK.out) (HR.out.new HK.out) HF.out hm ⟨15, ⟨#[]⟩, tx, st⟩ _ a7 c7 (flat_of_owns HOR.out) (by omega) (fun g hg hh => absurd (Ht.out g hh) (Nat.not_lt.2 (own_slBlk HOR.out hg)))
        have Hmp := hid hmp
        clear hmp
        go_wp2_with (first
          | (go_at_call 73; refine hT.mono ?_; rintro e w9 ⟨rfl, X9⟩; clear hT)
          | go_quiet (fail) | fail)
        go_end0
        refine ⟨rfl, ?_⟩
        unfold endP
        rw [Hmp.out]
        exact X9.first HK.out
      · have hmp : mailsP ns r.st st tx = cancelL ns r.st tx (min ns.length r.st.nodes.length) ++ [msgP r.st.id ⟨2, r.st.par, ⟨#[]⟩, r.st.pnode, ⟨#[]⟩, tx, st⟩] := by unfold mailsP; rw [if_neg hp]
        have ep : r.st.par.toList.isEmpty = false := by
          have h := str_eq r.st.par ⟨#[]⟩
          rw [decide_eq_false hp] at h
          simpa using h
        have Hmp := hid hmp
        clear hmp
        go_upto_region 9 with (first | go_quiet (fail) | fail)
        refine wp_onlyN (en9 (B := w.heap.size) (t := msgP r.st.id ⟨2, r.st.par, ⟨#[]⟩, r.st.pnode, ⟨#[]⟩, tx, st⟩) _ x4 x5 HK.out.size (by omega) HOR.out (fun V KV => message_any V H rb nm _ _ c r (HR.out.new (HK.out.and KV)) ⟨2, r.st.par, ⟨#[]⟩, r.st.pnode, ⟨#[]⟩, tx, st⟩) ?_)
        intro _ _ _ _ _ _ _ _ _ _ _ _ _ _ _ _ _ _ a4 c4x w4 o4 K4
        have KW4 : Kept (fun _ => False) w w4 := HK.out.trans K4 (fun i h => .inr h)
        rw [← tkF_add, show (cancelL ns r.st tx (min ns.length r.st.nodes.length)).length + 1 = (cancelL ns r.st tx (min ns.length r.st.nodes.length) ++ [msgP r.st.id ⟨2, r.st.par, ⟨#[]⟩, r.st.pnode, ⟨#[]⟩, tx, st⟩]).length by simp] at o4
        have hT := tellE (HE.out.new KW4) (HR.out.new KW4) HF.out hm ⟨15, ⟨#[]⟩, tx, st⟩ _ a4 c4x (flat_of_owns o4) (by rw [List.length_append]; show _ + 1 ≤ _; omega) (fun g hg hh => absurd (Ht.out g hh) (Nat.not_lt.2 (own_slBlk o4 hg)))
        rw [List.length_append, show [msgP r.st.id ⟨2, r.st.par, ⟨#[]⟩, r.st.pnode, ⟨#[]⟩, tx, st⟩].length = 1 from rfl] at hT
        have HKW4 := hid KW4
        clear o4 K4 KW4 x4 x5
        go_wp2_with (first
          | (go_at_call 73; refine hT.mono ?_; rintro e w9 ⟨rfl, X9⟩; clear hT)
          | go_quiet (fail) | fail)
        go_end0
        refine ⟨rfl, ?_⟩
        unfold endP
        rw [Hmp.out]
        exact X9.first HKW4.out

end Go.Proofs.YtfjekjbkifmpfaaDoor
