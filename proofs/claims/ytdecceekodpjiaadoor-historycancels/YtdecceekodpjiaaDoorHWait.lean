/-
  beginWait: a node that waits for a signal begins.
-/
import Derived.Test.YtdecceekodpjiaaDoorHBeg
import Derived.Deep.Cut
namespace Go.Proofs.YtdecceekodpjiaaDoor
open Go.RowKit

def waitP (nm : ByteArray) (ns : List Nd) (r : Rn) (x : Nd) : Rn := match keptP r.st.sigs x.arg with
  | none => tellP nm ns r ⟨11, x.name, ⟨#[]⟩, 0⟩ []
  | some i => tellP nm ns r ⟨12, x.name, ((r.st.sigs[i]?).map (fun s => s.text)).getD ⟨#[]⟩, 1⟩ []

theorem sevenC {w : World} {b : Nat} {T : TypeId} {u0 u1 u2 u3 u4 u5 u6 : Value} (h : w.heap[b]? = some (.cells #[u0, u1, u2, u3, u4, u5, u6] T (0, 0))) : w.cell? ⟨b, 0, none⟩ = some u0 ∧ w.cell? ⟨b, 1, none⟩ = some u1 ∧ w.cell? ⟨b, 2, none⟩ = some u2 ∧ w.cell? ⟨b, 3, none⟩ = some u3 ∧ w.cell? ⟨b, 4, none⟩ = some u4 := by
  simp [World.cell?, h]

theorem sgF_get {l : List Sg} {i : Nat} (hi : i < l.length) : (sgF l)[i * 2 + 1]? = some (.string (l[i]).text) := flatMap_at sgC_len (List.getElem?_eq_getElem hi) 1 (by decide)

set_option maxRecDepth 100000 in
set_option maxHeartbeats 8000000 in
theorem beginWait_any {w0 w : World} {H : Nat → Prop} {rb : Nat} {nm : ByteArray} {a : Option Addr} {c : Nat} {ns : List Nd} {r : Rn} {m : Nat} (E : Env w0 w H a ns) (R : RAt w H rb nm a ns.length c r) (F : Fit r m) (hm : m ≤ 1000000) (x : Nd) (av : Option Addr) (an cv : Nat) :
    Calls Tryd.prog 64 #[.pointer (some ⟨rb, 0, none⟩), .agg #[.string x.name, .int .i64 x.kind, .string x.arg, .string x.«to», .int .i64 x.delay, .int .i64 x.tries, .slice av an cv]] w fun e w' => e = .returned (.tuple #[]) ∧ RGoes w H rb nm a ns.length c (waitP nm ns r x) w' := by
  have KA : Kept (fun _ => False) w (w.alloc (.cells #[.string x.name, .int .i64 x.kind, .string x.arg, .string x.«to», .int .i64 x.delay, .int .i64 x.tries, .slice av an cv] 32)) := Kept.alloc _ _ _
  have hA := heap_alloc_new w (.cells #[.string x.name, .int .i64 x.kind, .string x.arg, .string x.«to», .int .i64 x.delay, .int .i64 x.tries, .slice av an cv] 32)
  obtain ⟨n0, _, n2, _, _⟩ := sevenC hA
  have R1 := R.new KA
  have E1 := E.new KA
  have HKA := hid KA
  clear KA hA R E
  go_enter Tryd.func64, Tryd.ntmps64
  go_upto_region 1 with fail
  generalize w.alloc (.cells #[.string x.name, .int .i64 x.kind, .string x.arg, .string x.«to», .int .i64 x.delay, .int .i64 x.tries, .slice av an cv] 32) = W at *
  obtain ⟨v6, v7, v12, v13, hb, hn6, hn7, _, _, htop⟩ := R1.opened
  obtain ⟨_, _, x2, x3, x4, x5, x6, x7, x8, x9, x10, _⟩ := runCells hb
  have hC := kept_any W.drew r.st v6 v7 ⟨flat_of_owns (ownsRow_keep hn6 (fun _ _ => rfl)), flat_of_owns (ownsRow_keep hn7 (fun _ _ => rfl)), F.nodes, by have := F.sigs; omega⟩ x.arg
  unfold stA keptZ at hC
  refine wp_onlyN (bw1 _ x2 x3 x4 x5 x6 x7 x8 x9 x10 n2 hC ?_)
  intro _ _ _ _ _ _ _ w5 K5
  have n0' := keepC K5 n0 (fun _ _ h => h)
  have x9' := keepC K5 x9 (fun _ _ h => h)
  have E5 := E1.new K5
  have R5 := R1.new K5
  have HK5 := hid (HKA.out.and K5)
  have hn7' := ownsRow_keep hn7 (fun g hg => K5.block g (ownsRow_blk hn7 hg) (fun h => h))
  clear x2 x3 x4 x5 x6 x7 x8 x9 x10 hC hb hn6 hn7 n0 n2 E1 R1 K5
  cases hk : keptP r.st.sigs x.arg with
  | none =>
    have HW := hid (show waitP nm ns r x = tellP nm ns r ⟨11, x.name, ⟨#[]⟩, 0⟩ [] by unfold waitP; rw [hk])
    have hT := tellE E5 R5 F hm ⟨11, x.name, ⟨#[]⟩, 0⟩ [] none 0 (flat_none w5) (by decide) (fun g h => by cases h)
    rw [List.length_nil] at hT
    clear E5 R5 hn7' hk
    simp only []
    go_wp2_with (first
      | (go_at_call 34; refine hT.mono ?_; rintro e w9 ⟨rfl, X9⟩; clear hT)
      | fail)
    (try simp only [Exit.inBlock, Exit.then]); refine bodyPost_ret (results_none rfl _ _ _) rfl ?_
    refine ⟨rfl, ?_⟩
    rw [HW.out]
    exact X9.first HK5.out
  | some i =>
    have hi := keptP_lt hk
    obtain ⟨g, cg, hv, _, _, hrow⟩ := row_at hn7' (by omega)
    subst hv
    have q1 := (hrow _ _ (sgF_get hi)).1
    have hT := tellE (E5.new (Kept.drew _ _)) (R5.new (Kept.drew _ _)) F hm ⟨12, x.name, (r.st.sigs[i]).text, 1⟩ [] none 0 (flat_none _) (by decide) (fun g h => by cases h)
    rw [List.length_nil] at hT
    have hg : ((r.st.sigs[i]?).map (fun s => s.text)).getD ⟨#[]⟩ = (r.st.sigs[i]).text := by rw [List.getElem?_eq_getElem hi]; rfl
    have HW := hid (show waitP nm ns r x = tellP nm ns r ⟨12, x.name, (r.st.sigs[i]).text, 1⟩ [] by unfold waitP; rw [hk]; simp only []; rw [hg])
    have e0 : ¬ ((i : Int) < 0) := by omega
    clear E5 R5 hn7' hk hrow hg
    simp only []
    go_upto_region 4 with fail
    refine wp_onlyN (bw4 (R := fun V => RGoes w5.drew H rb nm a ns.length c (tellP nm ns r ⟨12, x.name, (r.st.sigs[i]).text, 1⟩ []) V) _ n0' x9' q1 hi hT ?_)
    intro _ _ _ _ _ _ _ _ _ _ _ _ _ _ w9 X9
    clear n0' x9' q1 hT
    go_wp2_with fail
    go_end0
    refine ⟨rfl, ?_⟩
    rw [HW.out]
    exact X9.first (HK5.out.and (Kept.drew _ _))

end Go.Proofs.YtdecceekodpjiaaDoor
