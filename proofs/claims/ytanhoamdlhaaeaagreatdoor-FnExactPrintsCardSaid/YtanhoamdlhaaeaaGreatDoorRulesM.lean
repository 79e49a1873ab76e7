/-
  The contracts of impl.instrRules and impl.instrsFit. No condition.
-/
import Derived.Test.YtanhoamdlhaaeaaGreatDoorSInstrM
import Derived.Test.YtanhoamdlhaaeaaGreatDoorShapeM
import Derived.Deep.RegionHeld
set_option maxRecDepth 100000
set_option maxHeartbeats 8000000
namespace Go.Proofs.YtanhoamdlhaaeaaGreatDoor
open Go.Proofs.Tryz
open Go.RowKit
def insB (xs:List In)(i:Nat)(n1 n2:Nat):Bool:=match xs with
 | []=>true
 | x :: xs=>Zau x i n1 n2 && insB xs (i+1) n1 n2
theorem ZeJ (c:List In)(i a b:Nat)(x:In)(h:c[i]? = some x):insB (c.drop i) i a b=(Zau x i a b && insB (c.drop (i+1)) (i+1) a b):=by
 obtain ⟨e,d⟩:=List.getElem?_eq_some_iff.1 h;rw [List.drop_eq_getElem_cons e,d];rfl
def Zfc:Array Value:=#[.nilFunc,.func (.func 143) #[] #[],.func (.func 144) #[] #[],.func (.func 145) #[] #[],.func (.func 146) #[] #[],.func (.func 146) #[] #[],.func (.func 147) #[] #[],.func (.func 148) #[] #[],.func (.func 149) #[] #[],.func (.func 149) #[] #[]]
theorem Zca {P:Program}(w:World)(d:Nat)(t:TypeId)(c rs:Array TypeId)(v:Bool)(f:Fn)(a b:Array Value)(h:P.underlying t=some (.func c rs v)):(Op.equalIn (d+1) t (.func f a b) .nilFunc).run P w=.ok false w:=by
 simp [Op.equalIn,run_underlying h]
theorem Zcf {P:Program}(w:World)(d:Nat)(t:TypeId)(a rs:Array TypeId)(v:Bool)(h:P.underlying t=some (.func a rs v)):(Op.equalIn (d+1) t .nilFunc .nilFunc).run P w=.ok true w:=by
 simp [Op.equalIn,run_underlying h]
theorem ZdX (f:Fn)(a b:Array Value)(w:World):Sem.run prog (binOp .eql 190 (.func f a b) .nilFunc) w=.ok (.bool false) w:=by
 have h:(Op.equal 190 (.func f a b) .nilFunc).run prog w=.ok false w:=Zca w 9999 _ _ _ _ f a b underlying190;simp only [binOp];simp [h]
theorem Zhc (w:World):Sem.run prog (binOp .eql 190 .nilFunc .nilFunc) w=.ok (.bool true) w:=by
 have h:(Op.equal 190 .nilFunc .nilFunc).run prog w=.ok true w:=Zcf w 9999 _ _ _ _ underlying190;simp only [binOp];simp [h]
theorem ZdJ:Zfc.all (·.oneCell')=true:=by simp [Zfc,Value.oneCell']
theorem Zmd:(prog.info? 191).map (·.size)=some 10:=by kernel_rfl
theorem Zdo (w:World):Calls prog 127 #[] w fun e f=>e=.returned (.agg Zfc)/\Below w.heap.size w f:=by
 go_enter func127,ntmps127
 go_wp2_with (refine Zak rfl 191 _ _ rfl w.heap.size Zfc rfl rfl 191 _ (cg _ _) Zmd rfl ZdJ ?_)
 intro g c b d;have a:Below w.heap.size w g:=((cf _ _).alloc (ce _) _).trans b;go_wp2;exact ck (results_cell_row rfl _ _ w.heap.size 191 _ (0,0) _ rfl c underlying191 rfl Zmd) rfl ⟨rfl,a⟩
theorem ZaP {w wr b:World}{o:Obj}(a:Below w.heap.size w wr)(c:Below (wr.alloc o).drew.heap.size (wr.alloc o).drew b):Below w.heap.size w b :=
 ((a.alloc a.size o).drew).trans (c.mono (((a.alloc a.size o).drew).size))
theorem ZaX {a wr b:World}{o:Obj}(c:Below a.heap.size a wr)(d:Below (wr.alloc o).drew.heap.size (wr.alloc o).drew b):Below a.heap.size a b:=ZaP c d
theorem Zbk {wr a:World}{cs:Array Value}{t:TypeId}{z r:Nat}{u0 u1 u2 u3 j k l f:Value}(e:Below (wr.alloc (Obj.cells cs t)).drew.heap.size (wr.alloc (Obj.cells cs t)).drew a)(d:z < wr.heap.size)(w:r < wr.heap.size)(n:Nat)(m:cs[0]? = some u0)(o:cs[1]? = some u1)(q:cs[2]? = some u2)(s:cs[3]? = some u3)(x:wr.cell? ⟨z,0,none⟩=some j)(y:wr.cell? ⟨z,0+1,none⟩=some k)(A:wr.cell? ⟨z,0+2,none⟩=some l)(B:wr.cell? ⟨r,n,none⟩=some f) :
  a.cell? ⟨wr.heap.size,0,none⟩=some u0/\a.cell? ⟨wr.heap.size,1,none⟩=some u1/\a.cell? ⟨wr.heap.size,2,none⟩=some u2/\a.cell? ⟨wr.heap.size,3,none⟩=some u3/\a.cell? ⟨z,0,none⟩=some j/\a.cell? ⟨z,1,none⟩=some k/\a.cell? ⟨z,2,none⟩=some l/\a.cell? ⟨r,n,none⟩=some f:=by
 have b:a.heap[wr.heap.size]? = some (Obj.cells cs t):=(e.block _ (by simp)).trans (cg _ _)
 have c:∀ (g i:Nat) (v:Value),g < wr.heap.size -> wr.cell? ⟨g,i,none⟩=some v -> a.cell? ⟨g,i,none⟩=some v:=fun g i v u h=>by
  rw [e.cell (p:=⟨g,i,none⟩) (by simp;omega)]
  show (wr.alloc (Obj.cells cs t)).cell? ⟨g,i,none⟩=some v
  rw [World.cell?_alloc_lt _ _ _ u];exact h
 exact ⟨by rw [cd a _ 0 _ _ _ b];exact m,by rw [cd a _ 1 _ _ _ b];exact o,by rw [cd a _ 2 _ _ _ b];exact q,by rw [cd a _ 3 _ _ _ b];exact s,c z 0 _ d x,c z 1 _ d y,c z 2 _ d A,c r n _ w B⟩
theorem Zd4 (H I:Option Addr)(m J N L:Nat)(v2:Value)(c:List In)(w:World)(R:InRow w v2 c) :
  Calls prog 104 #[.agg #[.slice H m J,v2,.slice I N L]] w fun e a=>e=.returned (.bool (decide (c.length <= 400) && insB c 0 m c.length))/\Below w.heap.size w a:=by
 have ar:=R;obtain ⟨a2,K,rfl,an,hm,hz,B⟩:=R
 by_cases hl:c.length <= 400
 ·have G:Hid (decide (c.length <= 400)=true):=by unfold Hid;simp [hl]
  go_enter func104,ntmps104
  have X:Below w.heap.size w (w.alloc (Obj.cells #[.slice H m J,.slice a2 c.length K,.slice I N L] 45)):=(cf _ _).alloc (ce _) _;go_wp2_with fail;refine (Zdo _).mono ?_;rintro e A ⟨rfl,Z⟩;have ab:A.heap[w.heap.size]? = some (.cells #[.slice H m J,.slice a2 c.length K,.slice I N L] 45 (0,0)):=(Z.block _ (by simp)).trans (cg _ _);have Y:=X.trans (Z.mono X.size);have ag:=(bl ab);clear X Z
  go_wp2_with (refine Zak rfl 191 _ _ rfl A.heap.size Zfc rfl rfl 191 _ (cg _ _) Zmd rfl ZdJ ?_)
  intro V ae aa ah;have ac:=(aa.block _ (by simpa using ag)).trans ((cn _ _ ag).trans ab);have ad:Below w.heap.size w V:=Y.trans ((((cf _ _).alloc (ce _) _).trans aa).mono Y.size);have ai:V.heap.size=A.heap.size+1:=by simpa using ah
  have U:A.heap.size < V.heap.size:=by omega
  have T:w.heap.size < V.heap.size:=by omega
  have al:V.cell? ⟨w.heap.size,0+1,none⟩=some (.slice a2 c.length K):=by rw [cd V _ 1 _ _ _ ac];rfl
  clear ab aa ah ai Y;go_wp2_with fail
  go_loopw [14] (fun i wr=>∃ k:Nat,k <= c.length/\i=.int .i64 k/\Hid (insB c 0 m c.length=insB (c.drop k) k m c.length)/\Below V.heap.size V wr) (fun i _=>c.length - (intOf i).toNat)
  case atStart=>exact ⟨0,by omega,rfl,rfl,cf _ _⟩
  case round =>
   obtain ⟨k,hk,rfl,HK,M⟩:=hrel;have F:=ad.trans (M.mono ad.size)
   by_cases af:k < c.length
   ·obtain ⟨g,o,rfl,hg,B⟩:=B (by intro e;subst e;simp at af)
    obtain ⟨x,hx⟩:∃ x,c[k]? = some x:=⟨c[k],by simp [af]⟩;obtain ⟨O,P,Q,S⟩:=(B k x hx).below F hg;have ak:=hz x (List.mem_of_getElem? hx);have HI:Hid (insB c 0 m c.length=(Zau x k m c.length && insB (c.drop (k+1)) (k+1) m c.length)):=by unfold Hid;rw [HK.out,ZeJ c k m c.length x hx]
    have z:=(M.block _ T).trans ac;have n:=(M.block _ U).trans ae;have aj:=M.size;clear B hx HK ac ae al;have C:wr.cell? ⟨w.heap.size,0,none⟩=some (.slice H m J):=by rw [cd wr _ 0 _ _ _ z];rfl
    have D:wr.cell? ⟨w.heap.size,0+1,none⟩=some (.slice (some ⟨g,o,none⟩) c.length K):=by rw [cd wr _ 1 _ _ _ z];rfl
    have E:wr.cell? ⟨w.heap.size,0+2,none⟩=some (.slice I N L):=by rw [cd wr _ 2 _ _ _ z];rfl
    obtain ⟨q,j,f,l⟩:=x;have hc:q < 0 \/ 10 <= q \/ q=0 \/ q=1 \/ q=2 \/ q=3 \/ q=4 \/ q=5 \/ q=6 \/ q=7 \/ q=8 \/ q=9:=by omega
    dsimp only at O P Q S ak
    have r:w.heap.size < wr.heap.size:=cm T aj;have s:A.heap.size < wr.heap.size:=cm U aj;have ap:=ZdX;have aq:=Zhc;rcases hc with hc | hc | rfl | rfl | rfl | rfl | rfl | rfl | rfl | rfl | rfl | rfl
    ·have y:Hid (insB c 0 m c.length=false):=by unfold Hid;rw [HI.out];simp [Zau,show ¬ q=1 by omega,show ¬ q=2 by omega,show ¬ q=3 by omega,show ¬ q=4 by omega,show ¬ q=5 by omega,show ¬ q=6 by omega,show ¬ q=7 by omega,show ¬ q=8 by omega,show ¬ q=9 by omega]
     have am:decide (q < 0)=true:=by simp [hc]
     clear HI;go_wp2_with fail
     go_quiet (fail)
     all_goals
      go_wp2;go_ret;exact ⟨by rw [G.out,y.out];rfl,(F.alloc F.size _).trans ⟨rfl,rfl,rfl,ce _,fun _ _=>rfl⟩⟩
    ·have y:Hid (insB c 0 m c.length=false):=by unfold Hid;rw [HI.out];simp [Zau,show ¬ q=1 by omega,show ¬ q=2 by omega,show ¬ q=3 by omega,show ¬ q=4 by omega,show ¬ q=5 by omega,show ¬ q=6 by omega,show ¬ q=7 by omega,show ¬ q=8 by omega,show ¬ q=9 by omega]
     have am:decide (q < 0)=false:=by simp;omega
     have ao:decide (10 <= q)=true:=by simp [hc]
     clear HI;go_wp2_with fail
     go_quiet (fail)
     all_goals
      go_wp2;go_ret;exact ⟨by rw [G.out,y.out];rfl,(F.alloc F.size _).trans ⟨rfl,rfl,rfl,ce _,fun _ _=>rfl⟩⟩
    ·have y:Hid (insB c 0 m c.length=false):=by unfold Hid;rw [HI.out];simp [Zau]
     have t:wr.cell? ⟨A.heap.size,0,none⟩=some .nilFunc:=by rw [cd wr _ 0 _ _ _ n];rfl
     clear HI;go_wp2_with fail
     go_quiet (fail)
     all_goals
      go_wp2;go_ret;exact ⟨by rw [G.out,y.out];rfl,(F.alloc F.size _).trans ⟨rfl,rfl,rfl,ce _,fun _ _=>rfl⟩⟩
    ·have u:Hid (Zau ⟨1,j,f,l⟩ k m c.length=litB ⟨1,j,f,l⟩ m):=by unfold Hid;simp [Zau]
     have t:wr.cell? ⟨A.heap.size,1,none⟩=some (.func (.func 143) #[] #[]):=by rw [cd wr _ 1 _ _ _ n];rfl
     rw [u.out] at HI;clear u n z;go_wp2_with fail
     go_region_held (fun a=>a.cell? ⟨wr.heap.size,0,none⟩=some (.int .i64 1)/\a.cell? ⟨wr.heap.size,1,none⟩=some (.int .i64 j)/\a.cell? ⟨wr.heap.size,2,none⟩=some (.int .i64 f)/\a.cell? ⟨wr.heap.size,3,none⟩=some (.string l)/\a.cell? ⟨w.heap.size,0,none⟩=some (.slice H m J)/\a.cell? ⟨w.heap.size,1,none⟩=some (.slice (some ⟨g,o,none⟩) c.length K)/\a.cell? ⟨w.heap.size,2,none⟩=some (.slice I N L)/\a.cell? ⟨A.heap.size,1,none⟩=some (.func (.func 143) #[] #[])) (first | exact v | go_keep) (first
      | (go_at_call 143;refine (Zh9 ⟨1,j,f,l⟩ _ _ _ _ _ _ _ _ _ _ _).mono ?_;rintro e W ⟨rfl,d⟩;have p:=ZaP F d;have v:=Zbk d r s 1 rfl rfl rfl rfl C D E t))
     all_goals
      generalize litB ⟨1,j,f,l⟩ m=b at HI;clear v C D E t O P Q S;cases b with
      | false =>
       have y:Hid (insB c 0 m c.length=false):=by unfold Hid;rw [HI.out];rfl
       go_wp2;go_ret;exact ⟨by rw [G.out,y.out];rfl,p⟩
      | true =>
       go_wp2
       go_roundw
       case rel=>exact ⟨k+1,by omega,by go_num,(by unfold Hid;rw [HI.out,Bool.true_and]),ZaX M d⟩
       case measure=>simp [intOf];omega
    ·have u:Hid (Zau ⟨2,j,f,l⟩ k m c.length=varB ⟨2,j,f,l⟩):=by unfold Hid;simp [Zau]
     have t:wr.cell? ⟨A.heap.size,2,none⟩=some (.func (.func 144) #[] #[]):=by rw [cd wr _ 2 _ _ _ n];rfl
     rw [u.out] at HI;clear u n z;go_wp2_with fail
     go_region_held (fun a=>a.cell? ⟨wr.heap.size,0,none⟩=some (.int .i64 2)/\a.cell? ⟨wr.heap.size,1,none⟩=some (.int .i64 j)/\a.cell? ⟨wr.heap.size,2,none⟩=some (.int .i64 f)/\a.cell? ⟨wr.heap.size,3,none⟩=some (.string l)/\a.cell? ⟨w.heap.size,0,none⟩=some (.slice H m J)/\a.cell? ⟨w.heap.size,1,none⟩=some (.slice (some ⟨g,o,none⟩) c.length K)/\a.cell? ⟨w.heap.size,2,none⟩=some (.slice I N L)/\a.cell? ⟨A.heap.size,2,none⟩=some (.func (.func 144) #[] #[])) (first | exact v | go_keep) (first
      | (go_at_call 144;refine (Zia ⟨2,j,f,l⟩ _ _ _ _ _ _ _ _ _ _ _).mono ?_;rintro e W ⟨rfl,d⟩;have p:=ZaP F d;have v:=Zbk d r s 2 rfl rfl rfl rfl C D E t))
     all_goals
      generalize varB ⟨2,j,f,l⟩=b at HI;clear v C D E t O P Q S;cases b with
      | false =>
       have y:Hid (insB c 0 m c.length=false):=by unfold Hid;rw [HI.out];rfl
       go_wp2;go_ret;exact ⟨by rw [G.out,y.out];rfl,p⟩
      | true =>
       go_wp2
       go_roundw
       case rel=>exact ⟨k+1,by omega,by go_num,(by unfold Hid;rw [HI.out,Bool.true_and]),ZaX M d⟩
       case measure=>simp [intOf];omega
    ·have u:Hid (Zau ⟨3,j,f,l⟩ k m c.length=ZaY ⟨3,j,f,l⟩):=by unfold Hid;simp [Zau]
     have t:wr.cell? ⟨A.heap.size,3,none⟩=some (.func (.func 145) #[] #[]):=by rw [cd wr _ 3 _ _ _ n];rfl
     rw [u.out] at HI;clear u n z;go_wp2_with fail
     go_region_held (fun a=>a.cell? ⟨wr.heap.size,0,none⟩=some (.int .i64 3)/\a.cell? ⟨wr.heap.size,1,none⟩=some (.int .i64 j)/\a.cell? ⟨wr.heap.size,2,none⟩=some (.int .i64 f)/\a.cell? ⟨wr.heap.size,3,none⟩=some (.string l)/\a.cell? ⟨w.heap.size,0,none⟩=some (.slice H m J)/\a.cell? ⟨w.heap.size,1,none⟩=some (.slice (some ⟨g,o,none⟩) c.length K)/\a.cell? ⟨w.heap.size,2,none⟩=some (.slice I N L)/\a.cell? ⟨A.heap.size,3,none⟩=some (.func (.func 145) #[] #[])) (first | exact v | go_keep) (first
      | (go_at_call 145;refine (ZeL ⟨3,j,f,l⟩ _ _ _ _ _ _ _ _ _ _ _ ak).mono ?_;rintro e W ⟨rfl,d⟩;have p:=ZaP F d;have v:=Zbk d r s 3 rfl rfl rfl rfl C D E t))
     all_goals
      generalize ZaY ⟨3,j,f,l⟩=b at HI;clear v C D E t O P Q S;cases b with
      | false =>
       have y:Hid (insB c 0 m c.length=false):=by unfold Hid;rw [HI.out];rfl
       go_wp2;go_ret;exact ⟨by rw [G.out,y.out];rfl,p⟩
      | true =>
       go_wp2
       go_roundw
       case rel=>exact ⟨k+1,by omega,by go_num,(by unfold Hid;rw [HI.out,Bool.true_and]),ZaX M d⟩
       case measure=>simp [intOf];omega
    ·have u:Hid (Zau ⟨4,j,f,l⟩ k m c.length=wayB ⟨4,j,f,l⟩ k c.length):=by unfold Hid;simp [Zau]
     have t:wr.cell? ⟨A.heap.size,4,none⟩=some (.func (.func 146) #[] #[]):=by rw [cd wr _ 4 _ _ _ n];rfl
     rw [u.out] at HI;clear u n z;go_wp2_with fail
     go_region_held (fun a=>a.cell? ⟨wr.heap.size,0,none⟩=some (.int .i64 4)/\a.cell? ⟨wr.heap.size,1,none⟩=some (.int .i64 j)/\a.cell? ⟨wr.heap.size,2,none⟩=some (.int .i64 f)/\a.cell? ⟨wr.heap.size,3,none⟩=some (.string l)/\a.cell? ⟨w.heap.size,0,none⟩=some (.slice H m J)/\a.cell? ⟨w.heap.size,1,none⟩=some (.slice (some ⟨g,o,none⟩) c.length K)/\a.cell? ⟨w.heap.size,2,none⟩=some (.slice I N L)/\a.cell? ⟨A.heap.size,4,none⟩=some (.func (.func 146) #[] #[])) (first | exact v | go_keep) (first
      | (go_at_call 146;refine (ZeN ⟨4,j,f,l⟩ _ _ _ _ _ _ _ _ _ _ _).mono ?_;rintro e W ⟨rfl,d⟩;have p:=ZaP F d;have v:=Zbk d r s 4 rfl rfl rfl rfl C D E t))
     all_goals
      generalize wayB ⟨4,j,f,l⟩ k c.length=b at HI;clear v C D E t O P Q S;cases b with
      | false =>
       have y:Hid (insB c 0 m c.length=false):=by unfold Hid;rw [HI.out];rfl
       go_wp2;go_ret;exact ⟨by rw [G.out,y.out];rfl,p⟩
      | true =>
       go_wp2
       go_roundw
       case rel=>exact ⟨k+1,by omega,by go_num,(by unfold Hid;rw [HI.out,Bool.true_and]),ZaX M d⟩
       case measure=>simp [intOf];omega
    ·have u:Hid (Zau ⟨5,j,f,l⟩ k m c.length=wayB ⟨5,j,f,l⟩ k c.length):=by unfold Hid;simp [Zau]
     have t:wr.cell? ⟨A.heap.size,5,none⟩=some (.func (.func 146) #[] #[]):=by rw [cd wr _ 5 _ _ _ n];rfl
     rw [u.out] at HI;clear u n z;go_wp2_with fail
     go_region_held (fun a=>a.cell? ⟨wr.heap.size,0,none⟩=some (.int .i64 5)/\a.cell? ⟨wr.heap.size,1,none⟩=some (.int .i64 j)/\a.cell? ⟨wr.heap.size,2,none⟩=some (.int .i64 f)/\a.cell? ⟨wr.heap.size,3,none⟩=some (.string l)/\a.cell? ⟨w.heap.size,0,none⟩=some (.slice H m J)/\a.cell? ⟨w.heap.size,1,none⟩=some (.slice (some ⟨g,o,none⟩) c.length K)/\a.cell? ⟨w.heap.size,2,none⟩=some (.slice I N L)/\a.cell? ⟨A.heap.size,5,none⟩=some (.func (.func 146) #[] #[])) (first | exact v | go_keep) (first
      | (go_at_call 146;refine (ZeN ⟨5,j,f,l⟩ _ _ _ _ _ _ _ _ _ _ _).mono ?_;rintro e W ⟨rfl,d⟩;have p:=ZaP F d;have v:=Zbk d r s 5 rfl rfl rfl rfl C D E t))
     all_goals
      generalize wayB ⟨5,j,f,l⟩ k c.length=b at HI;clear v C D E t O P Q S;cases b with
      | false =>
       have y:Hid (insB c 0 m c.length=false):=by unfold Hid;rw [HI.out];rfl
       go_wp2;go_ret;exact ⟨by rw [G.out,y.out];rfl,p⟩
      | true =>
       go_wp2
       go_roundw
       case rel=>exact ⟨k+1,by omega,by go_num,(by unfold Hid;rw [HI.out,Bool.true_and]),ZaX M d⟩
       case measure=>simp [intOf];omega
    ·have u:Hid (Zau ⟨6,j,f,l⟩ k m c.length=funB ⟨6,j,f,l⟩ k c.length):=by unfold Hid;simp [Zau]
     have t:wr.cell? ⟨A.heap.size,6,none⟩=some (.func (.func 147) #[] #[]):=by rw [cd wr _ 6 _ _ _ n];rfl
     rw [u.out] at HI;clear u n z;go_wp2_with fail
     go_region_held (fun a=>a.cell? ⟨wr.heap.size,0,none⟩=some (.int .i64 6)/\a.cell? ⟨wr.heap.size,1,none⟩=some (.int .i64 j)/\a.cell? ⟨wr.heap.size,2,none⟩=some (.int .i64 f)/\a.cell? ⟨wr.heap.size,3,none⟩=some (.string l)/\a.cell? ⟨w.heap.size,0,none⟩=some (.slice H m J)/\a.cell? ⟨w.heap.size,1,none⟩=some (.slice (some ⟨g,o,none⟩) c.length K)/\a.cell? ⟨w.heap.size,2,none⟩=some (.slice I N L)/\a.cell? ⟨A.heap.size,6,none⟩=some (.func (.func 147) #[] #[])) (first | exact v | go_keep) (first
      | (go_at_call 147;refine (Zh8 ⟨6,j,f,l⟩ _ _ _ _ _ _ _ _ _ _ _).mono ?_;rintro e W ⟨rfl,d⟩;have p:=ZaP F d;have v:=Zbk d r s 6 rfl rfl rfl rfl C D E t))
     all_goals
      generalize funB ⟨6,j,f,l⟩ k c.length=b at HI;clear v C D E t O P Q S;cases b with
      | false =>
       have y:Hid (insB c 0 m c.length=false):=by unfold Hid;rw [HI.out];rfl
       go_wp2;go_ret;exact ⟨by rw [G.out,y.out];rfl,p⟩
      | true =>
       go_wp2
       go_roundw
       case rel=>exact ⟨k+1,by omega,by go_num,(by unfold Hid;rw [HI.out,Bool.true_and]),ZaX M d⟩
       case measure=>simp [intOf];omega
    ·have u:Hid (Zau ⟨7,j,f,l⟩ k m c.length=Zcj ⟨7,j,f,l⟩):=by unfold Hid;simp [Zau]
     have t:wr.cell? ⟨A.heap.size,7,none⟩=some (.func (.func 148) #[] #[]):=by rw [cd wr _ 7 _ _ _ n];rfl
     rw [u.out] at HI;clear u n z;go_wp2_with fail
     go_region_held (fun a=>a.cell? ⟨wr.heap.size,0,none⟩=some (.int .i64 7)/\a.cell? ⟨wr.heap.size,1,none⟩=some (.int .i64 j)/\a.cell? ⟨wr.heap.size,2,none⟩=some (.int .i64 f)/\a.cell? ⟨wr.heap.size,3,none⟩=some (.string l)/\a.cell? ⟨w.heap.size,0,none⟩=some (.slice H m J)/\a.cell? ⟨w.heap.size,1,none⟩=some (.slice (some ⟨g,o,none⟩) c.length K)/\a.cell? ⟨w.heap.size,2,none⟩=some (.slice I N L)/\a.cell? ⟨A.heap.size,7,none⟩=some (.func (.func 148) #[] #[])) (first | exact v | go_keep) (first
      | (go_at_call 148;refine (Zg2 ⟨7,j,f,l⟩ _ _ _ _ _ _ _ _ _ _ _).mono ?_;rintro e W ⟨rfl,d⟩;have p:=ZaP F d;have v:=Zbk d r s 7 rfl rfl rfl rfl C D E t))
     all_goals
      generalize Zcj ⟨7,j,f,l⟩=b at HI;clear v C D E t O P Q S;cases b with
      | false =>
       have y:Hid (insB c 0 m c.length=false):=by unfold Hid;rw [HI.out];rfl
       go_wp2;go_ret;exact ⟨by rw [G.out,y.out];rfl,p⟩
      | true =>
       go_wp2
       go_roundw
       case rel=>exact ⟨k+1,by omega,by go_num,(by unfold Hid;rw [HI.out,Bool.true_and]),ZaX M d⟩
       case measure=>simp [intOf];omega
    ·have u:Hid (Zau ⟨8,j,f,l⟩ k m c.length=ZbS ⟨8,j,f,l⟩):=by unfold Hid;simp [Zau]
     have t:wr.cell? ⟨A.heap.size,8,none⟩=some (.func (.func 149) #[] #[]):=by rw [cd wr _ 8 _ _ _ n];rfl
     rw [u.out] at HI;clear u n z;go_wp2_with fail
     go_region_held (fun a=>a.cell? ⟨wr.heap.size,0,none⟩=some (.int .i64 8)/\a.cell? ⟨wr.heap.size,1,none⟩=some (.int .i64 j)/\a.cell? ⟨wr.heap.size,2,none⟩=some (.int .i64 f)/\a.cell? ⟨wr.heap.size,3,none⟩=some (.string l)/\a.cell? ⟨w.heap.size,0,none⟩=some (.slice H m J)/\a.cell? ⟨w.heap.size,1,none⟩=some (.slice (some ⟨g,o,none⟩) c.length K)/\a.cell? ⟨w.heap.size,2,none⟩=some (.slice I N L)/\a.cell? ⟨A.heap.size,8,none⟩=some (.func (.func 149) #[] #[])) (first | exact v | go_keep) (first
      | (go_at_call 149;refine (ZdB ⟨8,j,f,l⟩ _ _ _ _ _ _ _ _ _ _ _).mono ?_;rintro e W ⟨rfl,d⟩;have p:=ZaP F d;have v:=Zbk d r s 8 rfl rfl rfl rfl C D E t))
     all_goals
      generalize ZbS ⟨8,j,f,l⟩=b at HI;clear v C D E t O P Q S;cases b with
      | false =>
       have y:Hid (insB c 0 m c.length=false):=by unfold Hid;rw [HI.out];rfl
       go_wp2;go_ret;exact ⟨by rw [G.out,y.out];rfl,p⟩
      | true =>
       go_wp2
       go_roundw
       case rel=>exact ⟨k+1,by omega,by go_num,(by unfold Hid;rw [HI.out,Bool.true_and]),ZaX M d⟩
       case measure=>simp [intOf];omega
    ·have u:Hid (Zau ⟨9,j,f,l⟩ k m c.length=ZbS ⟨9,j,f,l⟩):=by unfold Hid;simp [Zau]
     have t:wr.cell? ⟨A.heap.size,9,none⟩=some (.func (.func 149) #[] #[]):=by rw [cd wr _ 9 _ _ _ n];rfl
     rw [u.out] at HI;clear u n z;go_wp2_with fail
     go_region_held (fun a=>a.cell? ⟨wr.heap.size,0,none⟩=some (.int .i64 9)/\a.cell? ⟨wr.heap.size,1,none⟩=some (.int .i64 j)/\a.cell? ⟨wr.heap.size,2,none⟩=some (.int .i64 f)/\a.cell? ⟨wr.heap.size,3,none⟩=some (.string l)/\a.cell? ⟨w.heap.size,0,none⟩=some (.slice H m J)/\a.cell? ⟨w.heap.size,1,none⟩=some (.slice (some ⟨g,o,none⟩) c.length K)/\a.cell? ⟨w.heap.size,2,none⟩=some (.slice I N L)/\a.cell? ⟨A.heap.size,9,none⟩=some (.func (.func 149) #[] #[])) (first | exact v | go_keep) (first
      | (go_at_call 149;refine (ZdB ⟨9,j,f,l⟩ _ _ _ _ _ _ _ _ _ _ _).mono ?_;rintro e W ⟨rfl,d⟩;have p:=ZaP F d;have v:=Zbk d r s 9 rfl rfl rfl rfl C D E t))
     all_goals
      generalize ZbS ⟨9,j,f,l⟩=b at HI;clear v C D E t O P Q S;cases b with
      | false =>
       have y:Hid (insB c 0 m c.length=false):=by unfold Hid;rw [HI.out];rfl
       go_wp2;go_ret;exact ⟨by rw [G.out,y.out];rfl,p⟩
      | true =>
       go_wp2
       go_roundw
       case rel=>exact ⟨k+1,by omega,by go_num,(by unfold Hid;rw [HI.out,Bool.true_and]),ZaX M d⟩
       case measure=>simp [intOf];omega
   ·have y:Hid (insB c 0 m c.length=true):=by unfold Hid;rw [HK.out,List.drop_eq_nil_of_le (by omega)];rfl
    clear HK B;go_wp2;go_ret;exact ⟨by rw [G.out,y.out];rfl,F⟩
 ·have G:Hid (decide (c.length <= 400)=false):=by unfold Hid;simp [hl]
  go_enter func104,ntmps104
  go_wp2;go_ret;exact ⟨by rw [G.out];rfl,(cf _ _).alloc (ce _) _⟩
end Go.Proofs.YtanhoamdlhaaeaaGreatDoor
