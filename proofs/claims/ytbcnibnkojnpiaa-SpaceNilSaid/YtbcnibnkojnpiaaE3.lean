/- Stage 11: what the calls of a space do, plain. No condition. -/
import Derived.Test.YtbcnibnkojnpiaaE1
set_option linter.unusedVariables false
namespace Go.Proofs.Ytbcnibnkojnpiaa.P
open Go.RowKit Go.MuLone Go.Maps
/-- Which frames are free, and the bytes. -/
structure Sp where
  L : List Bool
  s : List UInt8
/-- Where a table's entry for an address stands. -/
def placeI (t a l : Int) : Int := t * 256 + partI a l * 8
def validB (s : List UInt8) (p : Int) : Bool := decide (p + 8 ≤ s.length) && decide (entS s p % 2 = 1)
def validF (s : List UInt8) (p : Int) : Int := bif validB s p then entS s p / 1024 else 0
def validG (s : List UInt8) (p : Int) : Int := bif validB s p then entS s p % 32 else 0
/-- How many tables on the way to an address aren't there. -/
def missI (s : List UInt8) (root a : Int) : Int := bif validB s (placeI root a 2) then (bif validB s (placeI (validF s (placeI root a 2)) a 1) then 0 else 1) else 2
def takeX (fi : Nat) (z : Sp) : Sp := ⟨takeL z.L fi, takeS z.L fi z.s⟩
def giveX (fi : Nat) (k : Int) (z : Sp) : Sp := ⟨giveL z.L fi k, giveS z.L fi k z.s⟩
def putX (z : Sp) (p v : Int) : Sp := ⟨z.L, storeS z.s p 8 v⟩
/-- The table to which another one leads, made if it isn't there. -/
def belowX (fi : Nat) (z : Sp) (t a l : Int) : Sp := bif validB z.s (placeI t a l) then z else putX (takeX fi z) (placeI t a l) (entryI (takeN z.L fi) 1)
def belowN (fi : Nat) (z : Sp) (t a l : Int) : Int := bif validB z.s (placeI t a l) then validF z.s (placeI t a l) else takeN z.L fi
def leftX (fi : Nat) (z : Sp) : Int := (cntL z.L fi (z.L.length - fi) : Nat)
def mapBad (fi : Nat) (z : Sp) (root page bits : Int) : Bool := !tknB z.L fi root || (decide (page < 0) || (decide (32768 ≤ page) || (decide (bits % 2 = 0) || decide (31 < bits))))
def mapThere (z : Sp) (root page : Int) : Bool := decide (leafR z.L.length z.s root (page * 256) = 0) && decide (entS z.s (leafV z.L.length z.s root (page * 256)) % 2 = 1)
def mapMiss (z : Sp) (root page : Int) : Int := bif decide (leafR z.L.length z.s root (page * 256) = 0) then 0 else missI z.s root (page * 256)
/-- The table that the page's entry stands in, when the tables are made. -/
def mapT (fi : Nat) (z : Sp) (root page : Int) : Int := belowN fi (belowX fi z root (page * 256) 2) (belowN fi z root (page * 256) 2) (page * 256) 1
def mapZ (fi : Nat) (z : Sp) (root page : Int) : Sp := belowX fi (belowX fi z root (page * 256) 2) (belowN fi z root (page * 256) 2) (page * 256) 1
def mapE (fi : Nat) (z : Sp) (root page bits : Int) : Int :=
  bif mapBad fi z root page bits then 1 else
  bif mapThere z root page then 9 else
  bif decide (leftX fi z ≤ mapMiss z root page) then 4 else
  loadR (takeX fi (mapZ fi z root page)).s (placeI (mapT fi z root page) (page * 256) 0) 8
def mapX (fi : Nat) (z : Sp) (root page bits : Int) : Sp :=
  bif mapBad fi z root page bits then z else
  bif mapThere z root page then z else
  bif decide (leftX fi z ≤ mapMiss z root page) then z else
  putX (takeX fi (mapZ fi z root page)) (placeI (mapT fi z root page) (page * 256) 0) (entryI (takeN (mapZ fi z root page).L fi) bits)
section
variable {X : Type} (rd : X → Sp) (fi : Nat)
/-- A round over a table. -/
def rndX (fr fst : Int) (f : Int → Int → Int → X → X) (i : Nat) (x : X) : X :=
  bif validB (rd x).s (fr * 256 + i * 8) && tknB (rd x).L fi (validF (rd x).s (fr * 256 + i * 8)) then f (fst * 32 + i) (validF (rd x).s (fr * 256 + i * 8)) (validG (rd x).s (fr * 256 + i * 8)) x else x
def lpX (fr fst : Int) (f : Int → Int → Int → X → X) : Nat → X → X
  | 0, x => x
  | k + 1, x => rndX rd fi fr fst f k (lpX fr fst f k x)
/-- A table, and what it leads to. -/
def visX (pg : Int → Int → Int → X → X) (tb : Int → X → X) : Nat → Int → Int → X → X
  | 0, fr, fst, x => tb fr (lpX rd fi fr fst pg 32 x)
  | l + 1, fr, fst, x => tb fr (lpX rd fi fr fst (fun n nx _ x => visX pg tb l nx n x) 32 x)
end
def pagesX (fi : Nat) (z : Sp) (root : Int) : Sp × List Int := visX (X := Sp × List Int) (·.1) fi (fun n _ _ x => (x.1, x.2 ++ [n])) (fun _ x => x) 2 root 0 (z, [])
def freeX (fi : Nat) (z : Sp) (root : Int) : Sp := visX (X := Sp) id fi (fun _ f _ x => giveX fi f x) (fun f x => giveX fi f x) 2 root 0 z
def countX (fi : Nat) (z : Sp) (root : Int) : Sp × Int := visX (X := Sp × Int) (·.1) fi (fun _ _ _ x => (x.1, IntKind.i64.wrap (x.2 + 1))) (fun _ x => (x.1, IntKind.i64.wrap (x.2 + 1))) 2 root 0 (z, 0)
def copyPg (fi : Nat) (other : Int) (n f g : Int) (x : Sp) : Sp :=
  let x1 := mapX fi x other n g
  let leaf := leafV x1.L.length x1.s other (n * 256)
  bif validB x1.s leaf then ⟨x1.L, copyS x1.L.length x1.s (validF x1.s leaf) f⟩ else x1
def copyZ (fi : Nat) (z : Sp) (root other : Int) : Sp := visX (X := Sp) id fi (fun n f g x => copyPg fi other n f g x) (fun _ x => x) 2 root 0 z
def copyE (fi : Nat) (z : Sp) (root : Int) : Int := bif tknB z.L fi root then (bif decide (leftX fi z < (countX fi z root).2) then 4 else 0) else 1
def copyN (fi : Nat) (z : Sp) (root : Int) : Int := bif decide (copyE fi z root = 0) then takeN z.L fi else 0
def copyW (fi : Nat) (z : Sp) (root : Int) : Sp := bif decide (copyE fi z root = 0) then copyZ fi (takeX fi z) root (takeN z.L fi) else z
section
variable {X : Type} (rd : X → Sp)
/-- Up to where the piece from `from` on goes. -/
def pieceI (at_ n from_ : Int) : Int := min n (from_ + 256 - (IntKind.u64.wrap (at_ + from_)) % 256)
def chunkX (root at_ n acc : Int) (f : Int → Int → Int → X → X) : Nat → Int → X → X × Int
  | 0, _, x => (x, 0)
  | k + 1, from_, x => bif decide (n ≤ from_) then (x, 0) else
      bif decide (walkR (rd x).L.length (rd x).s root (IntKind.u64.wrap (at_ + from_)) acc = 0) then chunkX root at_ n acc f k (pieceI at_ n from_) (f (walkV (rd x).L.length (rd x).s root (IntKind.u64.wrap (at_ + from_)) acc) from_ (pieceI at_ n from_) x)
      else (x, walkR (rd x).L.length (rd x).s root (IntKind.u64.wrap (at_ + from_)) acc)
end
def movedBad (fi : Nat) (z : Sp) (root n : Int) : Bool := !tknB z.L fi root || (decide (n < 0) || decide (4096 < n))
def inX (z : Sp) (root at_ n : Int) : List UInt8 × Int := chunkX (X := List UInt8) (fun _ => z) root at_ n 1 (fun p a b x => x ++ (getV z.s p (b - a)).data.toList) (n.toNat + 1) 0 []
def inE (fi : Nat) (z : Sp) (root at_ n : Int) : Int := bif movedBad fi z root n then 1 else (inX z root at_ n).2
def inV (fi : Nat) (z : Sp) (root at_ n : Int) : ByteArray := bif decide (inE fi z root at_ n = 0) then ⟨(inX z root at_ n).1.toArray⟩ else ⟨#[]⟩
/-- May all of these bytes be written? -/
def outE (fi : Nat) (z : Sp) (root at_ : Int) (x : ByteArray) : Int := bif movedBad fi z root x.size then 1 else (chunkX (X := Unit) (fun _ => z) root at_ x.size 2 (fun _ _ _ u => u) (x.size + 1) 0 ()).2
end Go.Proofs.Ytbcnibnkojnpiaa.P
