/-
  The document's run: a workflow is closed; its children and its parent are told.
-/
import Derived.Test.YtfjekjbkifmpfaaDoorG48
import Derived.Test.YtfjekjbkifmpfaaDoorG23
import Derived.Test.YtfjekjbkifmpfaaDoorG28
import Derived.Deep.Cut
namespace Go.Proofs.YtfjekjbkifmpfaaDoor.Rf
open Go.RowKit

/-- event, where a definition stands around. -/
theorem eventE {w0 w : World} {H : Nat → Prop} {rb : Nat} {nm : ByteArray} {a : Option Addr} {c : Nat} {ns : List Nd} {r : Rn} {m : Nat} (E : Env w0 w H a ns) (R : RAt w H rb nm a ns.length c r) (F : Fit r m) (hm : m ≤ 1000000) (ev : Ev) :
    Calls Tryd.prog 63 #[.pointer (some ⟨rb, 0, none⟩), .int .i64 ev.kind, .string ev.node, .string ev.text, .int .i64 ev.num] w fun e w' => e = .returned (.tuple #[]) ∧ RGoes w H rb nm a ns.length c (evR nm ns r ev) w' :=
  event_any w H rb nm a c ns r R F.nodes (by have := F.sigs; omega) F.ev0 (by have := F.ev1; omega) (by have := F.evs; omega) E.here.1 E.few ev

/-- A call behind a call. -/
theorem RGoes.next {w w1 w2 w3 : World} {H H1 : Nat → Prop} {rb : Nat} {nm : ByteArray} {a : Option Addr} {n c : Nat} {r : Rn} (hH : ∀ g, H1 g → H g ∨ w.heap.size ≤ g) (K : Kept H w w1) (K2 : Kept (fun _ => False) w1 w2) (X : RGoes w2 H1 rb nm a n c r w3) : RGoes w H rb nm a n c r w3 :=
  RGoes.trans hH K (RGoes.first K2 X)

def clR (nm : ByteArray) (ns : List Nd) (r : Rn) (st : Int) (tx : ByteArray) (k : Nat) : Rn :=
  { evR nm ns r ⟨15, ⟨#[]⟩, tx, st⟩ with tks := r.tks ++ (cancelL ns (evR nm ns r ⟨15, ⟨#[]⟩, tx, st⟩).st tx k).map (flowT (evR nm ns r ⟨15, ⟨#[]⟩, tx, st⟩).st.id) }

set_option maxRecDepth 100000 in
set_option maxHeartbeats 8000000 in
theorem closed_any {w0 w : World} {H : Nat → Prop} {rb : Nat} {nm : ByteArray} {a : Option Addr} {c : Nat} {ns : List Nd} {r : Rn} {m : Nat} (E : Env w0 w H a ns) (R : RAt w H rb nm a ns.length c r) (F : Fit r m) (hm : m ≤ 900000) (hn : ns.length ≤ 64) (st : Int) (tx : ByteArray) :
    Calls Tryd.prog 69 #[.pointer (some ⟨rb, 0, none⟩), .int .i64 st, .string tx] w fun e w' => e = .returned (.tuple #[]) ∧ RGoes w H rb nm a ns.length c (closedR nm ns r st tx) w' := by
  have hC := eventE E R F (by omega) ⟨15, ⟨#[]⟩, tx, st⟩
  have F1 := evR_fit (nm := nm) (ns := ns) F (by omega) ⟨15, ⟨#[]⟩, tx, st⟩
  have hz0 : clR nm ns r st tx 0 = evR nm ns r ⟨15, ⟨#[]⟩, tx, st⟩ := by
    unfold clR
    rw [show cancelL ns (evR nm ns r ⟨15, ⟨#[]⟩, tx, st⟩).st tx 0 = [] from rfl, List.map_nil, List.append_nil]
    rfl
  have hend : closedR nm ns r st tx = if (evR nm ns r ⟨15, ⟨#[]⟩, tx, st⟩).st.par = ⟨#[]⟩ then clR nm ns r st tx (min ns.length (evR nm ns r ⟨15, ⟨#[]⟩, tx, st⟩).st.nodes.length) else mailR (clR nm ns r st tx (min ns.length (evR nm ns r ⟨15, ⟨#[]⟩, tx, st⟩).st.nodes.length)) ⟨2, (evR nm ns r ⟨15, ⟨#[]⟩, tx, st⟩).st.par, ⟨#[]⟩, (evR nm ns r ⟨15, ⟨#[]⟩, tx, st⟩).st.pnode, ⟨#[]⟩, tx, st⟩ := by
    unfold closedR mailsP
    by_cases hp : (evR nm ns r ⟨15, ⟨#[]⟩, tx, st⟩).st.par = ⟨#[]⟩
    · rw [if_pos hp, if_pos hp, List.append_nil]
      rfl
    · rw [if_neg hp, if_neg hp]
      unfold mailR taskR clR
      simp only [List.map_append, List.append_assoc]
      rfl
  have hnx : ∀ k, clR nm ns r st tx (k + 1) = if cancelB ns (evR nm ns r ⟨15, ⟨#[]⟩, tx, st⟩).st k = true then mailR (clR nm ns r st tx k) ⟨4, childP (evR nm ns r ⟨15, ⟨#[]⟩, tx, st⟩).st.id ((ns[k]?.map (fun x => x.name)).getD ⟨#[]⟩), ⟨#[]⟩, (ns[k]?.map (fun x => x.name)).getD ⟨#[]⟩, ⟨#[]⟩, tx, 0⟩ else clR nm ns r st tx k := fun k => by
    unfold clR
    rw [cancelL_next]
    by_cases hb : cancelB ns (evR nm ns r ⟨15, ⟨#[]⟩, tx, st⟩).st k = true
    · rw [if_pos hb, if_pos hb, List.map_append, ← List.append_assoc]
      rfl
    · rw [if_neg hb, if_neg hb, List.append_nil]
  have hst : ∀ k, (clR nm ns r st tx k).st = (evR nm ns r ⟨15, ⟨#[]⟩, tx, st⟩).st := fun _ => rfl
  have htk : ∀ k, (clR nm ns r st tx k).tks.length ≤ m + k := fun k => by
    show (r.tks ++ (cancelL ns (evR nm ns r ⟨15, ⟨#[]⟩, tx, st⟩).st tx k).map (flowT (evR nm ns r ⟨15, ⟨#[]⟩, tx, st⟩).st.id)).length ≤ _
    have := cancelL_len ns (evR nm ns r ⟨15, ⟨#[]⟩, tx, st⟩).st tx k
    have := F.tks
    rw [List.length_append, List.length_map]
    omega
  rw [hend]
  rw [← hz0] at hC
  generalize clR nm ns r st tx = cl at *
  generalize evR nm ns r ⟨15, ⟨#[]⟩, tx, st⟩ = r1 at *
  obtain ⟨goal, hgoal⟩ : ∃ goal, goal = (if r1.st.par = ⟨#[]⟩ then cl (min ns.length r1.st.nodes.length) else mailR (cl (min ns.length r1.st.nodes.length)) ⟨2, r1.st.par, ⟨#[]⟩, r1.st.pnode, ⟨#[]⟩, tx, st⟩) := ⟨_, rfl⟩
  rw [← hgoal]
  have HG := hid hgoal
  clear hgoal
  have hR1 : Hid (r1.st.nodes.length ≤ 1000000 ∧ r1.st.id.size ≤ 100000000) := ⟨F1.nodes, F1.idsz⟩
  have HE := hid E
  have Hnx := hid hnx
  have Hst := hid hst
  have Htk := hid htk
  clear E R F F1 hz0 hend hnx hst htk
  go_enter Tryd.func69, Tryd.ntmps69
  go_upto_region 1 with (first
    | (go_at_call 63; refine hC.mono ?_; rintro e w1 ⟨rfl, X1⟩; clear hC)
    | fail)
  have HX1 := hid X1
  clear X1
  go_wp2_with fail
  go_loopw [6] (fun i wr => ∃ (k : Nat), k ≤ min ns.length r1.st.nodes.length ∧ i = .int .i64 k ∧ RGoes w H rb nm a ns.length c (cl k) wr) (fun i _ => min ns.length r1.st.nodes.length - (intOf i).toNat)
  case atStart => exact ⟨0, Nat.zero_le _, rfl, HX1.out⟩
  case round =>
    clear HX1
    obtain ⟨k, hk, rfl, X⟩ := hrel
    obtain ⟨H', E', R', hH', K'⟩ := env_goes HE.out X
    obtain ⟨v6, v7, v12, v13, hb, hn6, _, hHr, _, htop⟩ := R'.opened
    rw [Hst.out] at hb hn6
    obtain ⟨a6, c6, rfl⟩ := ownsRow_shape hn6
    obtain ⟨x0, x1, x2, x3, x4, x5, x6, x7, x8, _⟩ := runCells hb
    have hHr' := hid hHr
    by_cases hlt : k < min ns.length r1.st.nodes.length
    · have hl1 : k < ns.length := by omega
      have hl2 : k < r1.st.nodes.length := by omega
      have e0 : (k : Int) < ((min ns.length r1.st.nodes.length : Nat) : Int) := by omega
      have e1 : (k : Int) < (ns.length : Int) := by omega
      have e2 : (k : Int) < (r1.st.nodes.length : Int) := by omega
      obtain ⟨b, o, av, cv, hae, hT, c0, c1, c2, c3, c4, c5, c6'⟩ := E'.here.1.at hl1
      subst hae
      obtain ⟨g6, cg, hv, _, _, hrow⟩ := row_at hn6 (by omega)
      obtain ⟨rfl, rfl⟩ : a6 = some ⟨g6, 0, none⟩ ∧ c6 = cg := by simpa using hv
      have q0 := (hrow _ _ (nsF_get hl2).1).1
      have KA : Kept (fun _ => False) wr (wr.alloc (.cells #[.string (ns[k]).name, .int .i64 (ns[k]).kind, .string (ns[k]).arg, .string (ns[k]).«to», .int .i64 (ns[k]).delay, .int .i64 (ns[k]).tries, .slice av (ns[k]).after.length cv] 64)) := Kept.alloc _ _ _
      have q0' := keepC KA q0 (fun _ _ h => h)
      have x8' := keepC KA x8 (fun _ _ h => h)
      have x3' := keepC KA x3 (fun _ _ h => h)
      have hn0 : (wr.alloc (.cells #[.string (ns[k]).name, .int .i64 (ns[k]).kind, .string (ns[k]).arg, .string (ns[k]).«to», .int .i64 (ns[k]).delay, .int .i64 (ns[k]).tries, .slice av (ns[k]).after.length cv] 64)).cell? ⟨wr.heap.size, 0, none⟩ = some (.string (ns[k]).name) := firstC (heap_alloc_new _ _) rfl
      have hcb : cancelB ns r1.st k = (((ns[k]).kind == 3) && ((r1.st.nodes[k]).status == 2)) := by unfold cancelB; rw [List.getElem?_eq_getElem hl1, List.getElem?_eq_getElem hl2]
      have hnx := Hnx.out k
      have hsz := HE.out.names _ (List.getElem_mem hl1)
      rw [hcb, List.getElem?_eq_getElem hl1] at hnx
      have HNx := hid hnx
      have HH' := hid hH'
      have HK' := hid K'
      have HKA := hid KA
      have HR' := hid R'
      have hl3 : r1.st.id.size + 1 + (ns[k]).name.size ≤ 1000000000 := by have := hR1.out.2; omega
      have hmail := fun V (KV : Kept (fun _ => False) (wr.alloc (.cells #[.string (ns[k]).name, .int .i64 (ns[k]).kind, .string (ns[k]).arg, .string (ns[k]).«to», .int .i64 (ns[k]).delay, .int .i64 (ns[k]).tries, .slice av (ns[k]).after.length cv] 64)) V) => mail_any V H' rb nm _ _ c (cl k) (HR'.out.new (HKA.out.and KV)) (by have := Htk.out k; omega) ⟨4, childP r1.st.id (ns[k]).name, ⟨#[]⟩, (ns[k]).name, ⟨#[]⟩, tx, 0⟩
      clear hT hrow q0 hcb hnx hH' K' KA R' E' hb hn6 htop hHr X
      have step0 : (((ns[k]).kind == 3) && ((r1.st.nodes[k]).status == 2)) = false → ∃ (k1 : Nat), k1 ≤ min ns.length r1.st.nodes.length ∧ Value.int .i64 ((k : Int) + 1) = .int .i64 k1 ∧ RGoes w H rb nm (some ⟨b, o, none⟩) ns.length c (cl k1) (wr.alloc (.cells #[.string (ns[k]).name, .int .i64 (ns[k]).kind, .string (ns[k]).arg, .string (ns[k]).«to», .int .i64 (ns[k]).delay, .int .i64 (ns[k]).tries, .slice av (ns[k]).after.length cv] 64)) := fun hf => by
        have h := HNx.out
        rw [hf, if_neg (by decide)] at h
        exact ⟨k + 1, by omega, rfl, by rw [h]; exact RGoes.trans HH'.out HK'.out (RGoes.keep HR'.out HKA.out)⟩
      have HS0 := hid step0
      clear step0
      cases b1 : ((ns[k]).kind == 3) with
      | false =>
        clear hmail
        go_wp2_with (first | go_quiet (fail) | fail)
        go_roundw
        case rel => exact HS0.out (by rw [b1]; rfl)
        case measure => simp [intOf]; omega
      | true =>
        cases b2 : ((r1.st.nodes[k]).status == 2) with
        | false =>
          clear hmail
          go_wp2_with (first | go_quiet (fail) | fail)
          go_roundw
          case rel => exact HS0.out (by rw [b1, b2]; rfl)
          case measure => simp [intOf]; omega
        | true =>
          clear HS0
          go_upto_region 6 with (first | go_quiet (fail) | fail)
          refine wp_onlyN (cl6 (idv := r1.st.id) (x := (ns[k]).name) _ x3' hn0 hl3 (hmail _ (Kept.drew _ _)) ?_)
          intro _ _ _ _ _ _ _ _ _ _ _ _ _ _ _ w4 X4
          have HX4 : Hid (RGoes w H rb nm (some ⟨b, o, none⟩) ns.length c (mailR (cl k) ⟨4, childP r1.st.id (ns[k]).name, ⟨#[]⟩, (ns[k]).name, ⟨#[]⟩, tx, 0⟩) w4) := RGoes.next HH'.out HK'.out (HKA.out.and (Kept.drew _ _)) X4
          clear X4 hmail x0 x1 x2 x3 x4 x5 x6 x7 x8 c0 c1 c2 c3 c4 c5 c6' q0' x8' x3' hn0
          go_wp2_with fail
          go_roundw
          case rel =>
            have h := HNx.out
            rw [b1, b2, if_pos (show (true && true) = true from rfl)] at h
            exact ⟨k + 1, by omega, by go_num, by rw [h]; exact HX4.out⟩
          case measure => simp [intOf]; omega
    · have hkk := hid (show k = min ns.length r1.st.nodes.length by omega)
      have HX := hid X
      have HH' := hid hH'
      have HK' := hid K'
      have HR' := hid R'
      have ht := Htk.out k
      have hmin : k ≤ 64 := by omega
      clear X hH' K' R' E' hb hn6 htop hHr
      have hcases : (¬ ((k : Int) < (ns.length : Int))) ∨ (((k : Int) < (ns.length : Int)) ∧ ¬ ((k : Int) < (r1.st.nodes.length : Int))) := by have := hkk.out; omega
      clear hk hlt
      rcases hcases with e1 | ⟨e1, e2⟩
      all_goals
        by_cases hp : r1.st.par = ⟨#[]⟩
        · rw [hp] at x4
          go_wp2_with fail
          go_end0
          exact ⟨rfl, by rw [HG.out, ← hkk.out, if_pos hp]; exact HX.out⟩
        · have ep : r1.st.par.toList.isEmpty = false := by
            have h := str_eq r1.st.par ⟨#[]⟩
            rw [decide_eq_false hp] at h
            simpa using h
          have hmail := fun V (KV : Kept (fun _ => False) wr V) => mail_any V H' rb nm _ _ c (cl k) (HR'.out.new KV) (by omega) ⟨2, r1.st.par, ⟨#[]⟩, r1.st.pnode, ⟨#[]⟩, tx, st⟩
          go_upto_region 8 with fail
          refine wp_onlyN (cl8 _ x4 x5 (hmail _ (Kept.drew _ _)) ?_)
          intro _ _ _ _ _ _ _ _ _ _ _ _ _ _ _ w4 X4
          have HX4 := hid (RGoes.next HH'.out HK'.out (Kept.drew _ _) X4)
          clear X4 hmail x0 x1 x2 x3 x4 x5 x6 x7 x8
          go_wp2_with fail
          go_end0
          exact ⟨rfl, by rw [HG.out, ← hkk.out, if_neg hp]; exact HX4.out⟩

end Go.Proofs.YtfjekjbkifmpfaaDoor.Rf
