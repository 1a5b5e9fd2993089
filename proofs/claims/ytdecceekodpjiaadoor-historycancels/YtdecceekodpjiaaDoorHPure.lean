/-
  A workflow's state, events, tasks and inputs as data, and what each step of history does with them. Nothing here speaks of a program.
-/
import Derived.Test.YtdecceekodpjiaaDoorDReady
namespace Go.Proofs.YtdecceekodpjiaaDoor
open Go.RowKit

/-- A node as it stands. -/
structure Ns where
  status : Int
  tr : Int
  text : ByteArray
/-- A signal that is kept. -/
structure Sg where
  name : ByteArray
  text : ByteArray
structure Ev where
  kind : Int
  node : ByteArray
  text : ByteArray
  num : Int
structure Ml where
  kind : Int
  dst : ByteArray
  src : ByteArray
  node : ByteArray
  name : ByteArray
  text : ByteArray
  status : Int
structure Tk where
  kind : Int
  flow : ByteArray
  node : ByteArray
  tr : Int
  tm : Int
  mail : Ml
structure St where
  dfn : ByteArray
  id : ByteArray
  par : ByteArray
  pnode : ByteArray
  status : Int
  text : ByteArray
  nodes : List Ns
  sigs : List Sg
  events : Int
structure Inp where
  kind : Int
  node : ByteArray
  name : ByteArray
  text : ByteArray
  tr : Int
  status : Int
  now : Int
  par : ByteArray
  pnode : ByteArray
/-- A workflow while it does an input. -/
structure Rn where
  st : St
  now : Int
  evs : List Ev
  tks : List Tk

structure Mv where
  event : Int
  kind : Int
  src : Int
  dst : Int
  txt : Bool

/-- All that may become of nodes. -/
def movesL : List Mv := [⟨2, 1, 0, 1, false⟩, ⟨3, 1, 1, 2, false⟩, ⟨5, 1, 2, 1, false⟩, ⟨4, 1, 2, 3, true⟩, ⟨6, 0, 2, 4, true⟩, ⟨6, 3, 0, 4, true⟩, ⟨7, 2, 0, 2, false⟩, ⟨8, 2, 2, 3, false⟩, ⟨9, 3, 0, 2, false⟩, ⟨10, 3, 2, 3, true⟩, ⟨11, 4, 0, 2, false⟩, ⟨12, 4, 2, 3, true⟩, ⟨12, 4, 0, 3, true⟩, ⟨14, 5, 0, 3, false⟩]

def Mv.fits (m : Mv) (event kind status : Int) : Bool := (m.event == event) && ((m.src == status) && ((m.kind == kind) || (m.kind == 0)))
def moveP (event kind status : Int) : Option Mv := movesL.find? (fun m => m.fits event kind status)

def keptP (l : List Sg) (name : ByteArray) : Option Nat := l.findIdx? (fun k => decide (k.name = name))

/-- The signals behind a receiving, if it can be. -/
def receiveP (l : List Sg) (signal : ByteArray) (status number : Int) : Option (List Sg) :=
  if status = 2 then (if number = 0 then some l else none)
  else match keptP l signal with
    | some i => if number = 1 then some (l.eraseIdx i) else none
    | none => none

def setNode (l : List Ns) (i : Nat) (m : Mv) (e : Ev) : List Ns :=
  l.modify i (fun n => ⟨m.dst, if e.kind = 3 then e.num else n.tr, if m.txt then e.text else n.text⟩)

def nodeMove (ns : List Nd) (s : St) (e : Ev) (i : Nat) : Option Mv :=
  match ns[i]?, s.nodes[i]? with
  | some n, some x => moveP e.kind n.kind x.status
  | _, _ => none

def argAt (ns : List Nd) (i : Nat) : ByteArray := match ns[i]? with | some n => n.arg | none => ⟨#[]⟩

def changeNodeP (ns : List Nd) (s : St) (e : Ev) : Option St :=
  match findP ns e.node with
  | none => none
  | some i => match nodeMove ns s e i with
    | none => none
    | some m => match (if e.kind = 12 then receiveP s.sigs (argAt ns i) m.src e.num else some s.sigs) with
      | none => none
      | some l => some { s with nodes := setNode s.nodes i m e, sigs := l }

/-- The state behind an event, if the event fits. -/
def changeP (nm : ByteArray) (ns : List Nd) (s : St) (e : Ev) : Option St :=
  if s.status ≠ (if e.kind = 1 then 0 else 1) then none
  else if e.kind = 1 then some { s with status := 1, dfn := nm, par := e.text, pnode := e.node, nodes := List.replicate ns.length ⟨0, 0, ⟨#[]⟩⟩, events := s.events + 1 }
  else if e.kind = 13 then some { s with sigs := s.sigs ++ [⟨e.node, e.text⟩], events := s.events + 1 }
  else if e.kind = 15 then (if e.num = 2 ∨ e.num = 3 ∨ e.num = 4 then some { s with status := e.num, text := e.text, events := s.events + 1 } else none)
  else (changeNodeP ns s e).map (fun s' => { s' with events := s'.events + 1 })

/-! ### Cells -/

def nsC (n : Ns) : List Value := [.int .i64 n.status, .int .i64 n.tr, .string n.text]
def sgC (s : Sg) : List Value := [.string s.name, .string s.text]
def evC (e : Ev) : List Value := [.int .i64 e.kind, .string e.node, .string e.text, .int .i64 e.num]
def mlC (m : Ml) : List Value := [.int .i64 m.kind, .string m.dst, .string m.src, .string m.node, .string m.name, .string m.text, .int .i64 m.status]
def tkC (t : Tk) : List Value := [.int .i64 t.kind, .complex .f64 0 0, .string t.flow, .string t.node, .int .i64 t.tr, .int .i64 t.tm] ++ mlC t.mail
def mvC (m : Mv) : List Value := [.int .i64 m.event, .int .i64 m.kind, .int .i64 m.src, .int .i64 m.dst, .bool m.txt]
def mvV (m : Mv) : Value := .agg #[.int .i64 m.event, .int .i64 m.kind, .int .i64 m.src, .int .i64 m.dst, .bool m.txt]

end Go.Proofs.YtdecceekodpjiaaDoor
