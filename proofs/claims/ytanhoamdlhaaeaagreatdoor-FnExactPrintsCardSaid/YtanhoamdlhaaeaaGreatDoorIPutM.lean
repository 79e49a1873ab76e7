/-
  Texts that stood by themselves, laid into one.
-/
import Derived.Test.YtanhoamdlhaaeaaGreatDoorRNumsM
import Derived.Test.YtanhoamdlhaaeaaGreatDoorR8cM
import Derived.Deep.RegionHeld
import Derived.Test.YtanhoamdlhaaeaaGreatDoorMkListM
import Derived.Test.YtanhoamdlhaaeaaGreatDoorShapeM
import Derived.Deep.AppendLies
import Derived.Deep.RegionLawGrows
import Derived.OneCell
import Derived.Test.YtanhoamdlhaaeaaGreatDoorR8aM
import Derived.Test.YtanhoamdlhaaeaaGreatDoorIGetM
/-
  The contracts of impl.getN and its kin: the fields of a node of one kind are read into it. Bounds of the form alone.
-/
set_option maxRecDepth 100000
set_option maxHeartbeats 1600000
namespace Go.Proofs.YtanhoamdlhaaeaaGreatDoor
open Go.Proofs.Tryz
open Go.RowKit
def ndA (x:Nd):Array Value:=#[.int .i64 x.k,.int .i64 x.n,.string x.s,.int .i64 x.a,.int .i64 x.b]
def nd0 (k:Int):Nd:=⟨k,0,ByteArray.empty,0,0⟩
def Gets (f:Nat)(k:Int):Prop:=∀ (v:Value) (zs:List Int) (W0 w:World) (P nb:Nat) (a:Int),Row W0 v zs -> Below W0.heap.size W0 w -> W0.heap.size <= P -> W0.heap.size <= nb -> P ≠ nb -> One w P a -> w.heap[nb]? = some (.cells (ndA (nd0 k)) 176 (0,0)) ->
 Calls prog f #[.agg #[v,.pointer (some ⟨P,0,none⟩)],.pointer (some ⟨nb,0,none⟩)] w fun e w'=>K2 P nb w w' /\
  ((∃ x b,rdB zs k a=some (x,b)/\e=.returned .nilIface/\One w' P b/\w'.heap[nb]? = some (.cells (ndA x) 176 (0,0)))
   \/ (rdB zs k a=none/\(∃ p,e=.returned (badV p))/\(∃ q,One w' P q)/\∃ x,x.k=k/\w'.heap[nb]? = some (.cells (ndA x) 176 (0,0))))
theorem Zk9 {c:List Int}{k a b:Int}{x:Nd}(h:rdB c k a=some (x,b)):x.k=k:=by
 unfold rdB at h
 repeat' split at h
 all_goals first
  | (cases h;done)
  | (cases h;first | rfl | (symm;assumption))
  | (rw [Option.map_eq_some_iff] at h;obtain ⟨_,_,h⟩:=h;cases h;first | rfl | (symm;assumption))
  | (rw [Option.bind_eq_some_iff] at h;obtain ⟨_,_,h⟩:=h;rw [Option.map_eq_some_iff] at h;obtain ⟨_,_,h⟩:=h;cases h;first | rfl | (symm;assumption))
theorem Zdn:Gets 187 1:=by
 intro v i j w P nb a R m l k g d f;obtain ⟨e,b,rfl,_⟩:=R
 go_enter func187,ntmps187
 go_wp2;go_ret;have c:Below w.heap.size w (w.alloc (Obj.cells #[Value.slice e i.length b,Value.pointer (some ⟨P,0,none⟩)] 225)):=(cf _ _).alloc (ce _) _;exact ⟨K2.ofB c,Or.inl ⟨nd0 1,a,rfl,rfl,d.below c d.lt,(bb f c)⟩⟩
theorem Zcl (v:Value)(j:List Int)(f w:World)(P nb:Nat)(a:Int)(cs:Array Value)(b:Obj)(os:List Nat)(R:Row f v j)(C:Below f.heap.size f w)(I:f.heap.size <= P)(H:f.heap.size <= nb)(x:P ≠ nb)(B:One w P a)(D:w.heap[nb]? = some (.cells cs 176 (0,0)))(y:∀ o ∈ os,o < cs.size)(J:os.length <= 10) :
  Calls prog 176 #[.agg #[v,.pointer (some ⟨P,0,none⟩)],.slice (some ⟨w.heap.size+1,0,none⟩) os.length os.length] ((w.alloc b).alloc (Obj.cells (tgt nb os) 223)).drew fun e d=>∃ r,e=.returned r/\K2 P nb w d/\d.heap[w.heap.size]? = some b /\
   ((∃ q,rdK j os.length a=some q/\r=.nilIface/\One d P q.2/\d.heap[nb]? = some (.cells (setL cs os q.1) 176 (0,0)))
    \/ (rdK j os.length a=none/\(∃ p,r=badV p)/\(∃ q,One d P q)/\∃ A:List Int,A.length < os.length/\d.heap[nb]? = some (.cells (setL cs (os.take A.length) A) 176 (0,0)))):=by
 have s:=B.lt;have u:=(bl D);have g:Below w.heap.size w (w.alloc b):=(cf _ _).alloc (ce _) _;have c:Below w.heap.size w ((w.alloc b).alloc (Obj.cells (tgt nb os) 223)).drew:=(g.alloc g.size _).drew;have E:(w.alloc b).heap.size=w.heap.size+1:=by simp
 have G:((w.alloc b).alloc (Obj.cells (tgt nb os) 223)).drew.heap[w.heap.size+1]? = some (.cells (tgt nb os) 223 (0,0)):=by rw [<- E];exact cg _ _
 have F:((w.alloc b).alloc (Obj.cells (tgt nb os) 223)).drew.heap[w.heap.size]? = some b:=(cn (w.alloc b) _ (by rw [E];omega)).trans (cg w b);have t:=C.size;refine (Zdd v j f _ P nb (w.heap.size+1) a cs 176 os R (C.trans (c.mono t)) I H (B.below c s) ((c.block _ u).trans D) y G x (by omega) (by omega) J).mono ?_;rintro e d ⟨n,h⟩;have z:w.heap.size < ((w.alloc b).alloc (Obj.cells (tgt nb os) 223)).drew.heap.size:=(bl F);have i:=(n.block _ z (by omega) (by omega)).trans F;rcases h with ⟨q,k,rfl,l,m⟩ | ⟨k,⟨p,rfl⟩,l,m⟩
 ·exact ⟨_,rfl,(K2.ofB c).trans n,i,Or.inl ⟨q,k,rfl,l,m⟩⟩
 ·exact ⟨_,rfl,(K2.ofB c).trans n,i,Or.inr ⟨k,⟨p,rfl⟩,l,m⟩⟩
theorem Zb1 (b:List Int)(a:Int):rdK b 1 a=(rd1 b a).map fun p=>([p.1],p.2):=by
 simp only [rdK];cases rd1 b a <;> rfl
theorem ZkA (b:List Int)(a:Int):rdK b 2 a=(rd1 b a).bind fun p=>(rd1 b p.2).map fun q=>([p.1,q.1],q.2):=by
 rw [rdK];cases rd1 b a with
 | none=>rfl
 | some p=>simp only [Option.bind_some];rw [Zb1];cases rd1 b p.2 <;> rfl
theorem Ziq {d:List Int}{k a:Int}{o:Nat}{f:Int -> Nd}(m:∀ x,setL (ndA (nd0 k)) [o] [x]=ndA (f x))(n:rdB d k a=(rd1 d a).map fun p=>(f p.1,p.2)){P nb:Nat}{c:World}{r:Value}(h:(∃ q,rdK d 1 a=some q/\r=.nilIface/\One c P q.2/\c.heap[nb]? = some (.cells (setL (ndA (nd0 k)) [o] q.1) 176 (0,0)))
    \/ (rdK d 1 a=none/\(∃ p,r=badV p)/\(∃ q,One c P q)/\∃ g:List Int,g.length < 1/\c.heap[nb]? = some (.cells (setL (ndA (nd0 k)) ([o].take g.length) g) 176 (0,0)))) :
  (∃ x b,rdB d k a=some (x,b)/\r=.nilIface/\One c P b/\c.heap[nb]? = some (.cells (ndA x) 176 (0,0)))
   \/ (rdB d k a=none/\(∃ p,r=badV p)/\(∃ q,One c P q)/\c.heap[nb]? = some (.cells (ndA (nd0 k)) 176 (0,0))):=by
 rw [Zb1] at h;rw [n];cases l:rd1 d a with
 | some p =>
  rw [l] at h;rcases h with ⟨q,e,rfl,j,i⟩ | ⟨e,-⟩
  ·cases e
   rw [m] at i;exact Or.inl ⟨_,_,rfl,rfl,j,i⟩
  ·cases e
 | none =>
  rw [l] at h;rcases h with ⟨q,e,-⟩ | ⟨-,⟨p,rfl⟩,j,g,s,i⟩
  ·cases e
  ·obtain rfl:g=[]:=List.eq_nil_of_length_eq_zero (by omega)
   exact Or.inr ⟨rfl,⟨p,rfl⟩,j,i⟩
theorem Zi1 {i:List Int}{k a:Int}{o n:Nat}{f:Int -> Int -> Nd}{g:Int -> Nd}(C:∀ x y,setL (ndA (nd0 k)) [o,n] [x,y]=ndA (f x y))(D:∀ x,setL (ndA (nd0 k)) [o] [x]=ndA (g x))(w:∀ x,(g x).k=k)(E:rdB i k a=(rd1 i a).bind fun p=>(rd1 i p.2).map fun q=>(f p.1 q.1,q.2)){P nb:Nat}{d:World}{r:Value}(h:(∃ q,rdK i 2 a=some q/\r=.nilIface/\One d P q.2/\d.heap[nb]? = some (.cells (setL (ndA (nd0 k)) [o,n] q.1) 176 (0,0)))
    \/ (rdK i 2 a=none/\(∃ p,r=badV p)/\(∃ q,One d P q)/\∃ c:List Int,c.length < 2/\d.heap[nb]? = some (.cells (setL (ndA (nd0 k)) ([o,n].take c.length) c) 176 (0,0)))) :
  (∃ x b,rdB i k a=some (x,b)/\r=.nilIface/\One d P b/\d.heap[nb]? = some (.cells (ndA x) 176 (0,0)))
   \/ (rdB i k a=none/\(∃ p,r=badV p)/\(∃ q,One d P q)/\∃ x,x.k=k/\d.heap[nb]? = some (.cells (ndA x) 176 (0,0))):=by
 rw [ZkA] at h;rw [E]
 have l:∀ c:List Int,c.length < 2 -> d.heap[nb]? = some (.cells (setL (ndA (nd0 k)) ([o,n].take c.length) c) 176 (0,0)) -> ∃ x,x.k=k/\d.heap[nb]? = some (.cells (ndA x) 176 (0,0)):=by
  intro c z j
  match c,z with
  | [],_=>exact ⟨nd0 k,rfl,j⟩
  | [y],_=>exact ⟨g y,w y,by rw [<- D];exact j⟩
 rcases h with ⟨q,e,rfl,s,j⟩ | ⟨e,⟨p,rfl⟩,s,c,z,j⟩
 ·rw [Option.bind_eq_some_iff] at e
  obtain ⟨p,e,m⟩:=e;rw [Option.map_eq_some_iff] at m;obtain ⟨t,m,A⟩:=m;cases A;rw [C] at j;refine Or.inl ⟨_,_,?_,rfl,s,j⟩;rw [e];simp only [Option.bind_some];rw [m];rfl
 ·refine Or.inr ⟨?_,⟨p,rfl⟩,s,l c z j⟩
  cases B:rd1 i a with
  | none=>rfl
  | some t =>
   rw [B] at e;simp only [Option.bind_some] at e ⊢;cases v:rd1 i t.2 with
   | none=>rfl
   | some u=>rw [v] at e;cases e
theorem Zjn (v:Value)(d:List Int)(f w:World)(P nb:Nat)(a:Int)(k:Int)(R:Row f v d)(z:Below f.heap.size f w)(y:f.heap.size <= P)(x:f.heap.size <= nb)(l:P ≠ nb)(t:One w P a)(A:w.heap[nb]? = some (.cells (ndA (nd0 k)) 176 (0,0))) :
  Calls prog 189 #[.agg #[v,.pointer (some ⟨P,0,none⟩)],.pointer (some ⟨nb,0,none⟩)] w fun e b=>∃ r,e=.returned r/\K2 P nb w b /\
   ((∃ q,rdK d 1 a=some q/\r=.nilIface/\One b P q.2/\b.heap[nb]? = some (.cells (setL (ndA (nd0 k)) [1] q.1) 176 (0,0)))
    \/ (rdK d 1 a=none/\(∃ p,r=badV p)/\(∃ q,One b P q)/\∃ m:List Int,m.length < 1/\b.heap[nb]? = some (.cells (setL (ndA (nd0 k)) ([1].take m.length) m) 176 (0,0)))):=by
 obtain ⟨j,c,rfl,_⟩:=id R;have n:=Zcl _ d f w P nb a (ndA (nd0 k)) (Obj.cells #[Value.slice j d.length c,Value.pointer (some ⟨P,0,none⟩)] 225) [1] R z y x l t A (by intro o B;simp at B;simp [ndA];omega) (by simp)
 go_enter func189,ntmps189
 go_wp2_with fail
 go_region_held (fun b=>b.cell? ⟨w.heap.size,0,none⟩=some (.slice j d.length c)/\b.cell? ⟨w.heap.size,1,none⟩=some (.pointer (some ⟨P,0,none⟩))) (first | exact s | go_keep) (first
  | (go_at_call 176;refine n.mono ?_;rintro e i ⟨r,rfl,u,g,C⟩;have s:i.cell? ⟨w.heap.size,0,none⟩=some (.slice j d.length c)/\i.cell? ⟨w.heap.size,1,none⟩=some (.pointer (some ⟨P,0,none⟩)):=⟨cd i _ 0 _ _ _ g,cd i _ 1 _ _ _ g⟩))
 all_goals
  clear n s;go_wp2;go_ret;exact ⟨r,rfl,u,C⟩
theorem Zjm (v:Value)(d:List Int)(f w:World)(P nb:Nat)(a:Int)(k:Int)(R:Row f v d)(z:Below f.heap.size f w)(y:f.heap.size <= P)(x:f.heap.size <= nb)(l:P ≠ nb)(t:One w P a)(A:w.heap[nb]? = some (.cells (ndA (nd0 k)) 176 (0,0))) :
  Calls prog 199 #[.agg #[v,.pointer (some ⟨P,0,none⟩)],.pointer (some ⟨nb,0,none⟩)] w fun e b=>∃ r,e=.returned r/\K2 P nb w b /\
   ((∃ q,rdK d 1 a=some q/\r=.nilIface/\One b P q.2/\b.heap[nb]? = some (.cells (setL (ndA (nd0 k)) [3] q.1) 176 (0,0)))
    \/ (rdK d 1 a=none/\(∃ p,r=badV p)/\(∃ q,One b P q)/\∃ m:List Int,m.length < 1/\b.heap[nb]? = some (.cells (setL (ndA (nd0 k)) ([3].take m.length) m) 176 (0,0)))):=by
 obtain ⟨j,c,rfl,_⟩:=id R;have n:=Zcl _ d f w P nb a (ndA (nd0 k)) (Obj.cells #[Value.slice j d.length c,Value.pointer (some ⟨P,0,none⟩)] 225) [3] R z y x l t A (by intro o B;simp at B;simp [ndA];omega) (by simp)
 go_enter func199,ntmps199
 go_wp2_with fail
 go_region_held (fun b=>b.cell? ⟨w.heap.size,0,none⟩=some (.slice j d.length c)/\b.cell? ⟨w.heap.size,1,none⟩=some (.pointer (some ⟨P,0,none⟩))) (first | exact s | go_keep) (first
  | (go_at_call 176;refine n.mono ?_;rintro e i ⟨r,rfl,u,g,C⟩;have s:i.cell? ⟨w.heap.size,0,none⟩=some (.slice j d.length c)/\i.cell? ⟨w.heap.size,1,none⟩=some (.pointer (some ⟨P,0,none⟩)):=⟨cd i _ 0 _ _ _ g,cd i _ 1 _ _ _ g⟩))
 all_goals
  clear n s;go_wp2;go_ret;exact ⟨r,rfl,u,C⟩
theorem ZeC (v:Value)(d:List Int)(f w:World)(P nb:Nat)(a:Int)(k:Int)(R:Row f v d)(z:Below f.heap.size f w)(y:f.heap.size <= P)(x:f.heap.size <= nb)(l:P ≠ nb)(t:One w P a)(A:w.heap[nb]? = some (.cells (ndA (nd0 k)) 176 (0,0))) :
  Calls prog 195 #[.agg #[v,.pointer (some ⟨P,0,none⟩)],.pointer (some ⟨nb,0,none⟩)] w fun e b=>∃ r,e=.returned r/\K2 P nb w b /\
   ((∃ q,rdK d 2 a=some q/\r=.nilIface/\One b P q.2/\b.heap[nb]? = some (.cells (setL (ndA (nd0 k)) [3,4] q.1) 176 (0,0)))
    \/ (rdK d 2 a=none/\(∃ p,r=badV p)/\(∃ q,One b P q)/\∃ m:List Int,m.length < 2/\b.heap[nb]? = some (.cells (setL (ndA (nd0 k)) ([3,4].take m.length) m) 176 (0,0)))):=by
 obtain ⟨j,c,rfl,_⟩:=id R;have n:=Zcl _ d f w P nb a (ndA (nd0 k)) (Obj.cells #[Value.slice j d.length c,Value.pointer (some ⟨P,0,none⟩)] 225) [3,4] R z y x l t A (by intro o B;simp at B;simp [ndA];omega) (by simp)
 go_enter func195,ntmps195
 go_wp2_with fail
 go_region_held (fun b=>b.cell? ⟨w.heap.size,0,none⟩=some (.slice j d.length c)/\b.cell? ⟨w.heap.size,1,none⟩=some (.pointer (some ⟨P,0,none⟩))) (first | exact s | go_keep) (first
  | (go_at_call 176;refine n.mono ?_;rintro e i ⟨r,rfl,u,g,C⟩;have s:i.cell? ⟨w.heap.size,0,none⟩=some (.slice j d.length c)/\i.cell? ⟨w.heap.size,1,none⟩=some (.pointer (some ⟨P,0,none⟩)):=⟨cd i _ 0 _ _ _ g,cd i _ 1 _ _ _ g⟩))
 all_goals
  clear n s;go_wp2;go_ret;exact ⟨r,rfl,u,C⟩
theorem ZgU (v:Value)(d:List Int)(f w:World)(P nb:Nat)(a:Int)(k:Int)(R:Row f v d)(z:Below f.heap.size f w)(y:f.heap.size <= P)(x:f.heap.size <= nb)(l:P ≠ nb)(t:One w P a)(A:w.heap[nb]? = some (.cells (ndA (nd0 k)) 176 (0,0))) :
  Calls prog 197 #[.agg #[v,.pointer (some ⟨P,0,none⟩)],.pointer (some ⟨nb,0,none⟩)] w fun e b=>∃ r,e=.returned r/\K2 P nb w b /\
   ((∃ q,rdK d 2 a=some q/\r=.nilIface/\One b P q.2/\b.heap[nb]? = some (.cells (setL (ndA (nd0 k)) [1,3] q.1) 176 (0,0)))
    \/ (rdK d 2 a=none/\(∃ p,r=badV p)/\(∃ q,One b P q)/\∃ m:List Int,m.length < 2/\b.heap[nb]? = some (.cells (setL (ndA (nd0 k)) ([1,3].take m.length) m) 176 (0,0)))):=by
 obtain ⟨j,c,rfl,_⟩:=id R;have n:=Zcl _ d f w P nb a (ndA (nd0 k)) (Obj.cells #[Value.slice j d.length c,Value.pointer (some ⟨P,0,none⟩)] 225) [1,3] R z y x l t A (by intro o B;simp at B;simp [ndA];omega) (by simp)
 go_enter func197,ntmps197
 go_wp2_with fail
 go_region_held (fun b=>b.cell? ⟨w.heap.size,0,none⟩=some (.slice j d.length c)/\b.cell? ⟨w.heap.size,1,none⟩=some (.pointer (some ⟨P,0,none⟩))) (first | exact s | go_keep) (first
  | (go_at_call 176;refine n.mono ?_;rintro e i ⟨r,rfl,u,g,C⟩;have s:i.cell? ⟨w.heap.size,0,none⟩=some (.slice j d.length c)/\i.cell? ⟨w.heap.size,1,none⟩=some (.pointer (some ⟨P,0,none⟩)):=⟨cd i _ 0 _ _ _ g,cd i _ 1 _ _ _ g⟩))
 all_goals
  clear n s;go_wp2;go_ret;exact ⟨r,rfl,u,C⟩
theorem ZdZ (k:Int)(t:k=2 \/ k=8 \/ k=9):Gets 189 k:=by
 intro v y j w P nb a R s q o i l u;refine (Zjn v y j w P nb a k R s q o i l u).mono ?_;rintro e z ⟨r,rfl,n,h⟩;have m:=Ziq (f:=fun x=>⟨k,x,ByteArray.empty,0,0⟩) (fun x=>rfl) (by unfold rdB;rw [if_neg (by omega),if_pos t]) h;refine ⟨n,?_⟩;rcases m with ⟨x,b,c,rfl,d,g⟩ | ⟨c,⟨p,rfl⟩,d,g⟩
 ·exact Or.inl ⟨x,b,c,rfl,d,g⟩
 ·exact Or.inr ⟨c,⟨p,rfl⟩,d,_,rfl,g⟩
theorem Zjl:Gets 199 7:=by
 intro v t j w P nb a R q o n i k s;refine (Zjm v t j w P nb a 7 R q o n i k s).mono ?_;rintro e u ⟨r,rfl,m,h⟩;have l:=Ziq (f:=fun x=>⟨7,0,ByteArray.empty,x,0⟩) (fun x=>rfl) (by rfl) h;refine ⟨m,?_⟩;rcases l with ⟨x,b,c,rfl,d,g⟩ | ⟨c,⟨p,rfl⟩,d,g⟩
 ·exact Or.inl ⟨x,b,c,rfl,d,g⟩
 ·exact Or.inr ⟨c,⟨p,rfl⟩,d,_,rfl,g⟩
theorem ZeB:Gets 195 5:=by
 intro v u k w P nb a R s q o j l t;refine (ZeC v u k w P nb a 5 R s q o j l t).mono ?_;rintro e z ⟨r,rfl,n,h⟩;have m:=Zi1 (f:=fun x y=>⟨5,0,ByteArray.empty,x,y⟩) (g:=fun x=>⟨5,0,ByteArray.empty,x,0⟩) (fun x y=>rfl) (fun x=>rfl) (fun x=>rfl) (by rfl) h;refine ⟨n,?_⟩;rcases m with ⟨x,b,c,rfl,d,i⟩ | ⟨c,⟨p,rfl⟩,d,i⟩
 ·exact Or.inl ⟨x,b,c,rfl,d,i⟩
 ·exact Or.inr ⟨c,⟨p,rfl⟩,d,i⟩
theorem ZgT:Gets 197 6:=by
 intro v u k w P nb a R s q o j l t;refine (ZgU v u k w P nb a 6 R s q o j l t).mono ?_;rintro e z ⟨r,rfl,n,h⟩;have m:=Zi1 (f:=fun x y=>⟨6,x,ByteArray.empty,y,0⟩) (g:=fun x=>⟨6,x,ByteArray.empty,0,0⟩) (fun x y=>rfl) (fun x=>rfl) (fun x=>rfl) (by rfl) h;refine ⟨n,?_⟩;rcases m with ⟨x,b,c,rfl,d,i⟩ | ⟨c,⟨p,rfl⟩,d,i⟩
 ·exact Or.inl ⟨x,b,c,rfl,d,i⟩
 ·exact Or.inr ⟨c,⟨p,rfl⟩,d,i⟩
theorem ZgV:Gets 191 3:=by
 intro v k F w P nb a R L K J m G M;obtain ⟨s,g,rfl,_⟩:=id R;have y:=Zcl _ k F w P nb a (ndA (nd0 3)) (Obj.cells #[Value.slice s k.length g,Value.pointer (some ⟨P,0,none⟩)] 225) [1] R L K J m G M (by intro o N;simp at N;simp [ndA];omega) (by simp)
 go_enter func191,ntmps191
 go_wp2_with fail
 go_region_held (fun D=>D.cell? ⟨w.heap.size,0,none⟩=some (.slice s k.length g)/\D.cell? ⟨w.heap.size,1,none⟩=some (.pointer (some ⟨P,0,none⟩))) (first | exact B | go_keep) (first
  | (go_at_call 176;refine y.mono ?_;rintro e c ⟨r,rfl,I,j,A⟩;have B:c.cell? ⟨w.heap.size,0,none⟩=some (.slice s k.length g)/\c.cell? ⟨w.heap.size,1,none⟩=some (.pointer (some ⟨P,0,none⟩)):=⟨cd c _ 0 _ _ _ j,cd c _ 1 _ _ _ j⟩))
 all_goals
  have H:∃ z b,0 <= z/\z <= 9223372036854775807/\c.heap[nb]? = some (.cells (ndA ⟨3,z,ByteArray.empty,0,0⟩) 176 (0,0))/\One c P b/\Hid ((rd1 k a=some (z,b)/\r=.nilIface) \/ (rd1 k a=none/\∃ p,r=badV p)):=by
   rcases A with ⟨q,d,u,l,i⟩ | ⟨d,u,⟨q,l⟩,C,O,i⟩
   ·rw [show [1].length=1 from rfl,Zb1,Option.map_eq_some_iff] at d
    obtain ⟨p,d,rfl⟩:=d;obtain ⟨Q,S,_⟩:=Zco d;exact ⟨p.1,p.2,Q,S,i,l,Or.inl ⟨d,u⟩⟩
   ·rw [show [1].length=1 from rfl,Zb1,Option.map_eq_none_iff] at d
    obtain rfl:C=[]:=List.eq_nil_of_length_eq_zero (by have:C.length < 1:=O;omega);exact ⟨0,q,by omega,by omega,i,l,Or.inr ⟨d,u⟩⟩
  obtain ⟨z,b,V,W,i,l,E⟩:=H;clear y B j A;have T:c.cell? ⟨nb,1,none⟩=some (.int .i64 z):=cd c _ 1 _ _ _ i;have U:c.frozen? ⟨nb,1,none⟩=false:=cj c _ 1 _ _ i;have f:(c.setCell ⟨nb,1,none⟩ (.int .i64 (z - 1000000000))).heap[nb]? = some (.cells (ndA ⟨3,z - 1000000000,ByteArray.empty,0,0⟩) 176 (0,0)):=ci c nb 1 _ _ (.int .i64 (z - 1000000000)) i;have x:=I.trans (K2.ofM (Zam c nb 1 (.int .i64 (z - 1000000000))));have n:One (c.setCell ⟨nb,1,none⟩ (.int .i64 (z - 1000000000))) P b:=(ch c ⟨nb,1,none⟩ P _ (by simpa using m)).trans l;go_wp2;go_ret;refine ⟨x,?_⟩;rcases E.out with ⟨t,rfl⟩ | ⟨t,p,rfl⟩
  ·exact Or.inl ⟨_,b,by unfold rdB;rw [if_neg (by omega),if_neg (by omega),if_pos rfl,t];rfl,rfl,n,f⟩
  ·exact Or.inr ⟨by unfold rdB;rw [if_neg (by omega),if_neg (by omega),if_pos rfl,t];rfl,⟨p,rfl⟩,⟨_,n⟩,_,rfl,f⟩
theorem ZfI:Gets 193 4:=by
 intro v i E w P nb a R A G L o z B;obtain ⟨r,c,rfl,_⟩:=id R;have k:Below w.heap.size w (w.alloc (Obj.cells #[Value.slice r i.length c,Value.pointer (some ⟨P,0,none⟩)] 225)):=(cf _ _).alloc (ce _) _;have j:=z.below k z.lt;have H:=j.cell;obtain ⟨g,u⟩:∃ g,Hid (gT i a=g):=⟨_,rfl⟩;obtain ⟨f,F,s⟩:=g
 have y:Calls prog 209 #[.agg #[.slice r i.length c,.pointer (some ⟨P,0,none⟩)]] (w.alloc (Obj.cells #[Value.slice r i.length c,Value.pointer (some ⟨P,0,none⟩)] 225)) fun e D =>
   e=.returned (.tuple #[.string f,.bool s])/\(∃ q,One D P q/\(s=true -> q=F))/\(w.alloc (Obj.cells #[Value.slice r i.length c,Value.pointer (some ⟨P,0,none⟩)] 225)).grownBy D (some P):=by
  have:=ZjX _ i P a E _ R (A.trans (k.mono A.size)) G j;rw [u.out] at this;exact this
 go_enter func193,ntmps193
 go_wp2_with fail;refine y.mono ?_;rintro e b ⟨rfl,⟨q,C,I⟩,m⟩;have n:=(bl B);have d:=(m.block nb (cm n k.size) (by simpa using fun e=>o e.symm)).trans ((k.block nb n).trans B);have l:K2 P nb w b:=(K2.ofB k).trans (K2.ofP m);clear y H;cases s with
 | false =>
  go_wp2;go_ret;exact ⟨l,Or.inr ⟨by unfold rdB;rw [if_neg (by omega),if_neg (by omega),if_neg (by omega),if_pos rfl,u.out];rfl,⟨_,rfl⟩,⟨_,C⟩,_,rfl,d⟩⟩
 | true =>
  obtain rfl:=I rfl;have J:b.cell? ⟨nb,2,none⟩=some (.string ByteArray.empty):=cd b _ 2 _ _ _ d;have K:b.frozen? ⟨nb,2,none⟩=false:=cj b _ 2 _ _ d;have p:(b.setCell ⟨nb,2,none⟩ (.string f)).heap[nb]? = some (.cells (ndA ⟨4,0,f,0,0⟩) 176 (0,0)):=ci b nb 2 _ _ (.string f) d;have t:=l.trans (K2.ofM (Zam b nb 2 (.string f)));have x:One (b.setCell ⟨nb,2,none⟩ (.string f)) P q:=(ch b ⟨nb,2,none⟩ P _ (by simpa using o)).trans C;go_wp2;go_ret;exact ⟨t,Or.inl ⟨_,q,by unfold rdB;rw [if_neg (by omega),if_neg (by omega),if_neg (by omega),if_pos rfl,u.out];rfl,rfl,x,p⟩⟩
theorem Zir {w:World}{a:Nat}{b:Addr}{n c:Nat}{i:List Value}(h:w.ownsRow a 5 1 (.slice (some b) n c) n i)(f:0 < n):∃ g,b=⟨g,0,none⟩:=by
 obtain ⟨g,d,e,_⟩:=h.form f;simp only [Value.slice.injEq,Option.some.injEq] at e;exact ⟨g,e.1⟩
theorem Ze5 {w:World}{a:Nat}{d:Option Addr}{n c:Nat}{j:List Value}(h:w.ownsRow a 5 1 (.slice d n c) n j):d=none -> n=0/\c=0:=by
 intro e;subst e;rcases h.2 with ⟨b,k⟩ | ⟨g,f,i,b,_⟩
 ·simp only [Value.slice.injEq,true_and] at b;exact b
 ·simp at b
theorem Ze4 {w:World}{a:Nat}{i:Option Addr}{n c:Nat}{f:List Value}(h:w.ownsRow a 5 1 (.slice i n c) n f)(o:f.length=n):∀ d,i=some d -> ∀ (j:Nat) u,f[j]? = some u -> w.cell? (d.add j)=some u:=by
 intro d e j u k;subst e;have m:=(List.getElem?_eq_some_iff.1 k).1;have l:=Zir h (by omega);obtain ⟨g,rfl⟩:=l;have:=h.cellAt j (by omega);have b:(⟨g,0,none⟩:Addr).add j=⟨g,j,none⟩:=by unfold Addr.add;split <;> simp_all
 rw [b,this];exact k
theorem ZjB {w:World}{b:Nat}{d:Option Addr}{c:Nat}{a:List Int}(h:w.ownsRow b 5 1 (.slice d a.length c) a.length (bv a)):a.length ≠ 0 -> ∃ g f,d=some ⟨g,f,none⟩/\∀ i,i < a.length -> w.cell? ⟨g,f+i,none⟩=some (.int .u8 (a.getD i 0)):=by
 intro k;obtain ⟨g,j,e,_⟩:=h.form (by omega);simp only [Value.slice.injEq] at e;obtain ⟨rfl,_,_⟩:=e;refine ⟨g,0,rfl,fun i hi=>?_⟩;have:=h.cellAt i (by omega);rw [Nat.zero_add,this,ZhP a i hi]
def Zlv (zs:List Int)(j:Nat):List Int:=zs.take j ++ List.replicate (zs.length - j) 0
theorem ZjT (x:Int)(w:World)(b:x < 0) :
  Calls prog 169 #[.int .i64 x] w fun e a=>∃ v,e=.returned v/\a.ownsRow w.heap.size 5 1 v 0 (bv [])/\Below w.heap.size w a:=by
 go_enter func169,ntmps169
 go_wp2;go_ret;exact ⟨_,rfl,World.ownsRow_made _ _ 0 (ce _) (by simp) (by simp),(cf _ _).alloc (ce _) _⟩
theorem ZjU (x:Int)(w:World)(I:0 <= x)(F:x <= 9223372036854775807) :
  Calls prog 169 #[.int .i64 x] w fun e C=>∃ v,e=.returned v/\C.ownsRow w.heap.size 5 1 v (enc 9 x).length (bv (enc 9 x))/\Below w.heap.size w C:=by
 obtain ⟨A,hi,l,m,n⟩:=info_parts Zl3
 go_enter func169,ntmps169
 go_wp2
 go_loopw [0,3] (fun y v wr=>∃ (f:Nat) (q:Int) (a:List Int),y=.int .i64 q/\0 <= q/\q <= 9223372036854775807/\a.length+f=8/\Hid (q < lim (f+1))/\Hid (a ++ enc (f+1) q=enc 9 x)/\wr.ownsRow w.heap.size 5 1 v a.length (bv a)/\Below w.heap.size w wr) (fun y _ _=>(intOf y).toNat)
 case atStart =>
  exact ⟨8,x,[],rfl,I,F,rfl,by unfold Hid;rw [Zd9];omega,rfl,World.ownsRow_made _ _ 0 (ce _) (by simp) (by simp),(cf _ _).alloc (ce _) _⟩
 case round =>
  obtain ⟨f,q,a,rfl,G,H,z,D,r,d,g⟩:=hrel;have i:=g.size
  by_cases p:q < 128
  ·go_wp2_with (at_builtin;refine wpList_append_own _ rfl _ _ 144 rfl w.heap.size 5 A (.int .u8 0) 1 1 underlying144 hi l m n rfl (by decide) _ _ _ rfl (d.alloc _) ⟨wr.heap.size,0,none⟩ 1 1 [.int .u8 q] rfl rfl (cell_one_new _ _ _) (fun u j=>by simp at j;subst j;rfl) (by unfold maxLen;omega) (by omega) (by simp;omega) ?_)
   intro B J c b _;go_wp2;go_ret;refine ⟨B,rfl,?_,?_⟩
   ·have e:enc 9 x=a ++ [q]:=by rw [<- r.out,ZaW f q p]
    rw [e,Zci]
    simpa [bv] using c
   ·exact (g.alloc i _).grown b (by simp;omega) (fun k o=>(d.lt k o).1)
  ·go_wp2_with (at_builtin;refine wpList_append_own _ rfl _ _ 144 rfl w.heap.size 5 A (.int .u8 0) 1 1 underlying144 hi l m n rfl (by decide) _ _ _ rfl (d.alloc _) ⟨wr.heap.size,0,none⟩ 1 1 [.int .u8 (q % 128+128)] rfl rfl (cell_one_new _ _ _) (fun u j=>by simp at j;subst j;rfl) (by unfold maxLen;omega) (by omega) (by simp;omega) ?_)
   intro B J c b _;go_wp2
   go_roundw
   case rel =>
    obtain ⟨t,rfl,E⟩:=ZcQ f q (by omega) D.out;refine ⟨t,q / 128,a ++ [q % 128+128],rfl,by omega,by omega,by simp;omega,E,?_,?_,?_⟩
    ·have e:=Zb4 (t+1) q (by omega)
     have s:=r.out;rw [e] at s;unfold Hid;rw [<- s];simp
    ·rw [Zci]
     simpa [bv] using c
    ·exact (g.alloc i _).grown b (by simp;omega) (fun k o=>(d.lt k o).1)
   case measure=>simp [intOf];omega
theorem ZaR (x:Int)(w:World)(c:x <= 9223372036854775807) :
  Calls prog 169 #[.int .i64 x] w fun e b=>∃ v,e=.returned v/\b.ownsRow w.heap.size 5 1 v (encI x).length (bv (encI x))/\Below w.heap.size w b:=by
 by_cases a:x < 0
 ·rw [Zjf x a];exact ZjT x w a
 ·rw [Zck x (by omega)];exact ZjU x w (by omega) c
theorem Zhv (s:ByteArray)(w:World)(y:s.size <= 2097152) :
  Calls prog 170 #[.string s] w fun e p=>∃ v,e=.returned v/\p.ownsRow w.heap.size 5 1 v (pt s).length (bv (pt s))/\Below w.heap.size w p:=by
 obtain ⟨t,hi,l,m,n⟩:=info_parts Zl3;have hl:=Zaq s.size
 go_enter func170,ntmps170
 go_wp2_with fail;refine (ZaR (s.size:Int) _ (by omega)).mono ?_;rintro e x ⟨o,rfl,b,a⟩;have j:=a.size
 go_wp2_with (first | (refine Zch _ rfl _ 9 144 5 rfl underlying9 underlying144 underlying5 s rfl ?_;intro q z c f r) | (at_builtin;refine wpList_append_own _ rfl _ _ 144 rfl w.heap.size 5 t (.int .u8 0) 1 1 underlying144 hi l m n rfl (by decide) o (encI s.size).length (bv (encI s.size)) rfl ?ho ⟨x.heap.size,0,none⟩ s.size _ (bv (sb s)) rfl ?hl ?hn ?h1 ?h63 ?hby ?hba ?_))
 case ho=>exact b.kept f (by cases o.ownBlock <;> simp)
 case hl=>rw [ZaV,Zbr];simp
 case hn=>exact c
 case h1=>exact ints_oneCell .u8 _
 case h63=>unfold maxLen;omega
 case hby=>omega
 case hba=>omega
 intro u A g d _;go_wp2_with fail;go_ret;refine ⟨u,rfl,?_,(a.grown f j (fun k i=>by cases i)).grown d (by omega) (fun k i=>(b.lt k i).1)⟩;rw [Zdc,pt,Zci];exact g
end Go.Proofs.YtanhoamdlhaaeaaGreatDoor
