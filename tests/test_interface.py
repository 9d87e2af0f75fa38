import ast
import contextlib
import inspect
import io
import pathlib
import unittest

import eightbytes
from eightbytes import refs
from tests.reference import reference

PACKAGE = pathlib.Path(eightbytes.__file__).parent
PARAMETERS = {
    "look": ["v"],
    "root": ["rights"],
    "move": ["v", "good", "to"],
    "bound": ["v", "good", "n", "just"],
    "less": ["v", "good", "rights"],
    "seal": ["v", "good", "y", "ygood"],
    "open_seal": ["v", "good", "y", "ygood"],
    "is_in": ["v", "w"],
    "may": ["v", "good", "at", "n", "rights"],
    "room": ["n"],
}
SMALL = reference(address=300, upper=60, lower=40, rights=257)
SEALER = reference(address=3, upper=8, lower=1, rights=256)
SEALED = reference(address=300, upper=60, lower=40, seal=3, rights=257)
CALLS = [
    (refs.look, (0,)),
    (refs.look, (2 ** 64 - 1,)),
    (refs.look, (reference(address=5, upper=3, lower=9, power=15, seal=2, rights=300),)),
    (refs.look, (reference(address=5, upper=3, lower=9, power=0),)),
    (refs.root, (0,)),
    (refs.root, (256,)),
    (refs.root, (511,)),
    (refs.root, (2 ** 32 - 1,)),
    (refs.move, (SMALL, 1, 301)),
    (refs.move, (SMALL, 1, 0)),
    (refs.move, (SMALL, 0, 301)),
    (refs.move, (SEALED, 1, 301)),
    (refs.move, (2 ** 64 - 1, 1, 2 ** 32 - 1)),
    (refs.bound, (SMALL, 1, 16, 1)),
    (refs.bound, (SMALL, 1, 17, 0)),
    (refs.bound, (SMALL, 1, 0, 0)),
    (refs.bound, (SMALL, 0, 16, 1)),
    (refs.bound, (SEALED, 1, 16, 1)),
    (refs.bound, (reference(address=1, upper=255, power=15), 1, 256, 0)),
    (refs.bound, (reference(address=1, upper=255, power=15), 1, 256, 1)),
    (refs.bound, (2 ** 64 - 1, 1, 2 ** 32 - 1, 1)),
    (refs.less, (SMALL, 1, 1)),
    (refs.less, (SMALL, 0, 0)),
    (refs.less, (SEALED, 1, 256)),
    (refs.less, (2 ** 64 - 1, 1, 2 ** 32 - 1)),
    (refs.seal, (SMALL, 1, SEALER, 1)),
    (refs.seal, (SMALL, 0, SEALER, 1)),
    (refs.seal, (SMALL, 1, SEALER, 0)),
    (refs.seal, (SEALED, 1, SEALER, 1)),
    (refs.seal, (SMALL, 1, SMALL, 1)),
    (refs.seal, (2 ** 64 - 1, 1, 2 ** 64 - 1, 1)),
    (refs.open_seal, (SEALED, 1, SEALER, 1)),
    (refs.open_seal, (SEALED, 0, SEALER, 1)),
    (refs.open_seal, (SEALED, 1, SEALER, 0)),
    (refs.open_seal, (SMALL, 1, SEALER, 1)),
    (refs.open_seal, (2 ** 64 - 1, 1, 2 ** 64 - 1, 1)),
    (refs.is_in, (SMALL, SMALL)),
    (refs.is_in, (SMALL, SEALED)),
    (refs.is_in, (SMALL, reference(upper=255, power=15, rights=511))),
    (refs.is_in, (reference(upper=255, power=15, rights=511), SMALL)),
    (refs.is_in, (2 ** 64 - 1, 0)),
    (refs.may, (SMALL, 1, 300, 16, 1)),
    (refs.may, (SMALL, 0, 300, 16, 1)),
    (refs.may, (SEALED, 1, 300, 16, 1)),
    (refs.may, (SMALL, 1, 300, 16, 2)),
    (refs.may, (SMALL, 1, 300, 17, 1)),
    (refs.may, (2 ** 64 - 1, 1, 2 ** 32 - 1, 2 ** 32 - 1, 2 ** 32 - 1)),
]
ROOMS = [
    (refs.room, (1,)),
    (refs.room, (257,)),
    (refs.room, (255 * 2 ** 24,)),
]
REFUSED_ROOMS = [
    (refs.room, (0,)),
    (refs.room, (2 ** 32 - 1,)),
]
CALLS = CALLS + ROOMS + REFUSED_ROOMS
# All other calls answer a number and a reference.
LENGTHS = {refs.look: 7, refs.is_in: 1, refs.may: 1}


class Kinds(unittest.TestCase):
    def test_names_and_parameters(self):
        for name, parameters in PARAMETERS.items():
            call = getattr(eightbytes.refs, name)
            self.assertEqual(list(inspect.signature(call).parameters), parameters)

    def test_by_parameter_name(self):
        self.assertEqual(refs.look(v=10), refs.look(10))
        self.assertEqual(refs.root(rights=10), refs.root(10))
        self.assertEqual(refs.move(v=SMALL, good=1, to=301), refs.move(SMALL, 1, 301))
        self.assertEqual(refs.bound(v=SMALL, good=1, n=16, just=0), refs.bound(SMALL, 1, 16, 0))
        self.assertEqual(refs.less(v=SMALL, good=1, rights=1), refs.less(SMALL, 1, 1))
        self.assertEqual(refs.seal(v=SMALL, good=1, y=SEALER, ygood=1), refs.seal(SMALL, 1, SEALER, 1))
        self.assertEqual(refs.open_seal(v=SEALED, good=1, y=SEALER, ygood=1), refs.open_seal(SEALED, 1, SEALER, 1))
        self.assertEqual(refs.is_in(v=SMALL, w=2 ** 64 - 1), refs.is_in(SMALL, 2 ** 64 - 1))
        self.assertEqual(refs.may(v=SMALL, good=1, at=300, n=16, rights=2), refs.may(SMALL, 1, 300, 16, 2))
        self.assertEqual(refs.room(n=10), refs.room(10))

    def test_a_list_of_whole_numbers(self):
        for call, given in CALLS:
            answer = call(*given)
            self.assertIs(type(answer), list)
            for number in answer:
                self.assertIs(type(number), int)

    def test_how_many_numbers(self):
        for call, given in CALLS:
            if call != refs.room:
                self.assertEqual(len(call(*given)), LENGTHS.get(call, 2))
        for call, given in ROOMS:
            self.assertEqual(len(call(*given)), 3)
        for call, given in REFUSED_ROOMS:
            self.assertEqual(len(call(*given)), 1)


class NothingKept(unittest.TestCase):
    def test_the_same_call_twice(self):
        first = [call(*given) for call, given in CALLS]
        second = [call(*given) for call, given in reversed(CALLS)]
        self.assertEqual(first, second[::-1])

    def test_an_answer_that_is_changed_changes_no_later_one(self):
        for call, given in CALLS:
            answer = call(*given)
            before = list(answer)
            answer.clear()
            self.assertEqual(call(*given), before)

    def test_nothing_is_printed(self):
        out, err = io.StringIO(), io.StringIO()
        with contextlib.redirect_stdout(out), contextlib.redirect_stderr(err):
            for call, given in CALLS:
                call(*given)
        self.assertEqual(out.getvalue() + err.getvalue(), "")

    def test_nothing_is_imported(self):
        for path in sorted(PACKAGE.glob("*.py")):
            for node in ast.walk(ast.parse(path.read_text(encoding="ascii"))):
                self.assertNotIsInstance(node, (ast.Import, ast.ImportFrom))


if __name__ == "__main__":
    unittest.main()
